import Derived.Test.YtkpoiljioadfgaaDoorX05
import Derived.Test.YtkpoiljioadfgaaDoorX30
import Derived.Test.YtkpoiljioadfgaaDoorX36
import Derived.SizedLaws
import Derived.Test.YtkpoiljioadfgaaDoorRows
import Derived.SliceStrings
import Derived.ChangeMaps5
import Derived.ChangeSame
import Derived.ChangeVars
import Derived.JoinedOf
import Derived.RowKit
set_option linter.unusedVariables false
set_option linter.unusedSimpArgs false
namespace Go.Proofs.YtkpoiljioadfgaaDoor
open Go.ChangeShapes Go.WideShapes Go.ChangeAt Go.RowKit Go.Deep
theorem Tryd.bTy : Tryd.prog.bytesOf 31 = 56 := by kernel_rfl
theorem Tryd.bEx : Tryd.prog.bytesOf 44 = 168 := by kernel_rfl
theorem Tryd.bSl : Tryd.prog.bytesOf 66 = 112 := by kernel_rfl
theorem Tryd.bS : Tryd.prog.bytesOf 9 = 16 := by kernel_rfl
theorem Tryd.bDf : Tryd.prog.bytesOf 46 = 352 := by kernel_rfl
theorem reach_le {n : Nat} (h : n ≤ reachBytes) : n ≤ 140737488355328 := Nat.le_trans h (by decide)
theorem weightsAll_get {H : Type} {P : Program} {e : TypeId} : ∀ {l : List (DataW H)} {d : DataW H}, d ∈ l → ∀ n ∈ d.weights P e, n ∈ DataW.weightsAll P e l
  | x :: l, d, hd, n, hn => by
    simp only [DataW.weightsAll, List.mem_append]
    rcases List.mem_cons.1 hd with rfl | hd
    · exact .inl hn
    · exact .inr (weightsAll_get hd n hn)
def WOk {H : Type} (P : Program) (t : TypeId) (d : DataW H) : Prop := ∀ n ∈ d.weights P t, n ≤ reachBytes
theorem elems_atw {H : Type} {enc : TypeId × Value → H} {P : Program} {w : World} {base : Nat} {sp : Nat → Bool} {held : Bool} {fuel c b : Nat} {t e : TypeId} {cs : List Value} {x : DataW H × List MemPlace}
    (ht : P.underlying t = some (.slice e)) (hc : P.cellsOf e = c) (hb : P.bytesOf e = b) (h0 : 0 < c) (h : DataW.trod enc P w base sp held fuel t cs = some x) (hw : WOk P t x.1) :
    ∃ A len cap, cs = [.slice A len cap] ∧ len ≤ cap ∧ cap ≤ maxLen ∧ len * b ≤ 140737488355328 ∧ ∀ i, i < len → ∃ g o cs' y n, A = some ⟨g, o, none⟩ ∧ w.rangeAt g (o + i * c) cs' ∧ cs'.length = c ∧ fuel = n + 1 ∧ DataW.trod enc P w base sp held n e cs' = some y ∧ WOk P e y.1 := by
  rcases DataW.trod_slice ht h with ⟨rfl, _⟩ | ⟨a, len, cap, elems, rest, n, hf, rfl, hx, _, hl, hm, hlen, hel, _, _⟩
  · exact ⟨none, 0, 0, rfl, Nat.le_refl _, by simp [maxLen], by simp, fun i hi => absurd hi (by omega)⟩
  · subst hx
    have hws : DataW.weights P t (.slice (elems.map (·.1)) (rest.map (·.1))) = ((elems.map (·.1)).length + (rest.map (·.1)).length) * P.bytesOf e :: (DataW.weightsAll P e (elems.map (·.1)) ++ DataW.weightsAll P e (rest.map (·.1))) := by
      rw [DataW.weights, ht]
    have hsz := reach_le (hw _ (by show _ ∈ DataW.weights P t _; rw [hws]; exact List.mem_cons_self))
    rw [hb] at hsz
    have hsz2 : len * b ≤ 140737488355328 := by
      refine Nat.le_trans (Nat.mul_le_mul_right b ?_) hsz
      simp [hlen]
    refine ⟨some a, len, cap, rfl, hl, hm, hsz2, fun i hi => ?_⟩
    have h1 := hel i hi
    rw [List.getElem?_eq_getElem (by omega)] at h1
    obtain ⟨cs', h2, h3⟩ := Option.bind_eq_some_iff.1 h1
    rw [hc] at h2
    obtain ⟨_, h4, h5⟩ := World.cells?_some h2
    have hz := hel 0 (by omega)
    rw [List.getElem?_eq_getElem (by omega)] at hz
    obtain ⟨cz, z2, _⟩ := Option.bind_eq_some_iff.1 hz
    rw [hc] at z2
    obtain ⟨_, z4, z5⟩ := World.cells?_some z2
    have z50 := z5 0 h0
    rw [Addr.add_add, List.getElem?_eq_getElem (by omega)] at z50
    have hs := World.cell?_spot z50
    obtain ⟨b, o, s⟩ := a
    have hs : s = none := by simpa [Addr.add] using hs
    subst hs
    refine ⟨b, o, cs', elems[i], n, rfl, fun j u hu => ?_, h4, hf, h3, fun m hm => hw m ?_⟩
    · have h6 := h5 j (by have := (List.getElem?_eq_some_iff.1 hu).1; omega)
      rw [hu, Addr.add_add] at h6
      have ha : (⟨b, o, none⟩ : Addr).add (i * c + j) = ⟨b, o + i * c + j, none⟩ := by unfold Addr.add; split <;> simp_all [Nat.add_assoc]
      rwa [ha] at h6
    · show _ ∈ DataW.weights P t _
      rw [hws]
      exact List.mem_cons_of_mem _ (List.mem_append_left _ (weightsAll_get (d := elems[i].1) (List.mem_map.2 ⟨elems[i], List.getElem_mem _, rfl⟩) m hm))
theorem wok_fld {H : Type} {P : Program} {t : TypeId} {fs : Array Field} {f : Field} {xs : List (DataW H × List MemPlace)} {i : Nat} (ht : P.underlying t = some (.struct fs)) (h1 : fs[i]? = some f) (hi : i < xs.length) (hw : WOk P t (.agg (xs.map (·.1)))) : WOk P f.type xs[i].1 := fun m hm => hw m (by
  rw [DataW.weights, ht]
  exact DataW.weights_mem_each (j := i) (t := f.type) (d := xs[i].1) (by rw [List.getElem?_map, Array.getElem?_toList, h1]; rfl) (by rw [List.getElem?_map, List.getElem?_eq_getElem hi]; rfl) m hm)
section
variable {H : Type} {enc : TypeId × Value → H} {w : World} {sp : Nat → Bool} {held : Bool} {base : Nat}
theorem fldw {t : TypeId} {x : DataW H × List MemPlace} {pl : List MemPlace} {fs : Array Field} {xs : List (DataW H × List MemPlace)} {n : Nat} {cs : List Value} (ht : Tryd.prog.underlying t = some (.struct fs)) (hw : WOk Tryd.prog t x.1) (hx : x = (.agg (xs.map (·.1)), pl)) (hlen : xs.length = fs.size)
    (hf : ∀ (i : Nat) (f : Field), fs[i]? = some f → DataW.trod enc Tryd.prog w base sp held n f.type ((cs.drop f.offset).take (Tryd.prog.cellsOf f.type)) = xs[i]?)
    (i : Nat) (T : TypeId) (o c : Nat) (h : ∃ f, fs[i]? = some f ∧ f.type = T ∧ f.offset = o) (hc : Tryd.prog.cellsOf T = c) : ∃ y, DataW.trod enc Tryd.prog w base sp held n T ((cs.drop o).take c) = some y ∧ WOk Tryd.prog T y.1 := by
  obtain ⟨f, h1, rfl, rfl⟩ := h
  rw [← hc, hf i f h1]
  have hi : i < fs.size := (Array.getElem?_eq_some_iff.1 h1).1
  rw [hx] at hw
  exact ⟨_, List.getElem?_eq_getElem (by rw [hlen]; exact hi), wok_fld ht h1 (by rw [hlen]; exact hi) hw⟩
theorem open_tyw : ∀ (m : Nat) (cs : List Value) (x : DataW H × List MemPlace), DataW.trod enc Tryd.prog w base sp held m 31 cs = some x → WOk Tryd.prog 31 x.1 → cs.length = 5 ∧ ∃ y : Ty, TyAt w y (.agg cs.toArray) ∧ tsm y := by
  intro m
  induction m using Nat.strongRecOn with
  | _ m ih =>
    intro cs x h hw
    obtain ⟨xs, n, hn, hx, hl, hlen, hf⟩ := DataW.trod_struct Tryd.underlying31 h
    rw [Tryd.cTy] at hl
    obtain ⟨y0, h0⟩ := fld hlen hf 0 3 0 1 ⟨_, rfl, rfl, rfl⟩ Tryd.cI
    obtain ⟨k, e0, r0⟩ := fld_int h0
    obtain ⟨y1, h1⟩ := fld hlen hf 1 28 1 3 ⟨_, rfl, rfl, rfl⟩ Tryd.cId
    obtain ⟨a0, a1, a2, e1, r10, r11, r12⟩ := open_id3 h1
    obtain ⟨y2, h2, hw2⟩ := fldw Tryd.underlying31 hw hx hlen hf 2 29 4 1 ⟨_, rfl, rfl, rfl⟩ Tryd.cTs
    obtain ⟨A, len, cap, e2, hl1, hl2, hsz, hel⟩ := elems_atw Tryd.underlying29 Tryd.cTy Tryd.bTy (by omega) h2 hw2
    clear h0 h1 h2 hf hlen
    have s0 := seg cs 0 1 1 rfl
    have s1 := seg cs 1 3 4 rfl
    have s2 := seg cs 4 1 5 rfl
    rw [e2, List.drop_of_length_le (i := 5) (by omega)] at s2
    rw [e1, s2] at s1
    rw [e0, s1] at s0
    have each : ∀ i, i < len → ∃ z : Ty, ∃ g o cs', A = some ⟨g, o, none⟩ ∧ w.rangeAt g (o + i * 5) cs' ∧ TyAt w z (.agg cs'.toArray) ∧ tsm z := by
      intro i hi
      obtain ⟨g, o, cs', y', n', hA, hr, _, hn', ht, hwt⟩ := hel i hi
      obtain ⟨_, z, hz, hzs⟩ := ih n' (by omega) cs' y' ht hwt
      exact ⟨z, g, o, cs', hA, hr, hz, hzs⟩
    obtain ⟨f, hff⟩ := choose_lt each
    refine ⟨hl, .node k a0 a1 a2 ((List.range len).map f), ?_, ?_⟩
    have hcs : cs = t5 k a0 a1 a2 A len cap := s0
    · unfold TyAt
      refine ⟨A, cap, by rw [hcs]; simp, ⟨by simpa using hl1, hl2, r0, r10, r11, r12⟩, KtAt.mk fun j x hx => ?_⟩
      obtain ⟨hj, rfl⟩ := map_get hx
      rw [Nat.zero_add]
      obtain ⟨g, o, cs', hA, hr, ht, _⟩ := hff j hj
      exact ⟨g, o, cs', hA, hr, ht⟩
    · unfold tsm
      refine ⟨by simpa using hsz, tsmL_of fun j x hx => ?_⟩
      obtain ⟨hj, rfl⟩ := map_get hx
      obtain ⟨_, _, _, _, _, _, hs⟩ := hff j hj
      exact hs
theorem open_strsw {m : Nat} {cs : List Value} {x : DataW H × List MemPlace} (h : DataW.trod enc Tryd.prog w base sp held m 42 cs = some x) (hw : WOk Tryd.prog 42 x.1) : ∃ v, cs = [v] ∧ ∃ L, StrsAt w v L ∧ L.length * 16 ≤ 140737488355328 := by
  rcases open_strings Tryd.underlying42 Tryd.underlying9 Tryd.cS h with ⟨rfl, _⟩ | ⟨a, l, c, zs, rfl, _, hl, hm, hz, hx, hcell, hwz⟩
  · exact ⟨_, rfl, [], ⟨none, 0, rfl, ⟨Nat.le_refl _, by simp [maxLen]⟩, Rd.nil _ _ _⟩, by simp⟩
  · have hzl : l ≤ zs.length := by rw [hz]; split <;> omega
    have hsz : l * 16 ≤ 140737488355328 := by
      subst hx
      have h1 := reach_le (hw ((((strs (zs.take l) : List (DataW H))).length + (strs (zs.drop l) : List (DataW H)).length) * Tryd.prog.bytesOf 9) (by
        show _ ∈ DataW.weights Tryd.prog 42 (.slice (strs (zs.take l)) (strs (zs.drop l)))
        rw [DataW.weights, Tryd.underlying42]
        exact List.mem_cons_self))
      rw [Tryd.bS] at h1
      simp [strs] at h1
      omega
    refine ⟨_, rfl, zs.take l, ⟨some a, c, by simp [Nat.min_eq_left hzl], ⟨by simp; omega, hm⟩, rd_of_cells ?_⟩, by simp [Nat.min_eq_left hzl]; exact hsz⟩
    intro j u hu
    have hj : j < l := by have := (List.getElem?_eq_some_iff.1 hu).1; simp at this; omega
    rw [hcell j (by omega)]
    simp only [List.getElem?_map, List.getElem?_take, hj, if_true, List.getElem?_eq_getElem (show j < zs.length by omega), Option.map_some, Option.some.injEq] at hu
    rw [← hu]
    simp [List.getD, List.getElem?_eq_getElem (show j < zs.length by omega)]
theorem open_slw {m : Nat} {cs : List Value} {x : DataW H × List MemPlace} (h : DataW.trod enc Tryd.prog w base sp held m 66 cs = some x) (hw : WOk Tryd.prog 66 x.1) : ∃ y : Sl, SlAt w y cs ∧ tsm y.ty := by
  obtain ⟨xs, n, hn, hx, hl, hlen, hf⟩ := DataW.trod_struct Tryd.underlying66 h
  rw [Tryd.cSl] at hl
  obtain ⟨y0, h0⟩ := fld hlen hf 0 28 0 3 ⟨_, rfl, rfl, rfl⟩ Tryd.cId
  obtain ⟨a0, a1, a2, e0, r00, r01, r02⟩ := open_id3 h0
  obtain ⟨y1, h1⟩ := fld hlen hf 1 9 3 1 ⟨_, rfl, rfl, rfl⟩ Tryd.cS
  obtain ⟨s, e1, r1⟩ := fld_str h1
  obtain ⟨y2, h2, hw2⟩ := fldw Tryd.underlying66 hw hx hlen hf 2 31 4 5 ⟨_, rfl, rfl, rfl⟩ Tryd.cTy
  obtain ⟨l2, t, e2, ts⟩ := open_tyw _ _ _ h2 hw2
  obtain ⟨y3, h3⟩ := fld hlen hf 3 3 9 1 ⟨_, rfl, rfl, rfl⟩ Tryd.cI
  obtain ⟨mo, e3, r3⟩ := fld_int h3
  obtain ⟨y4, h4⟩ := fld hlen hf 4 3 10 1 ⟨_, rfl, rfl, rfl⟩ Tryd.cI
  obtain ⟨pl, e4, r4⟩ := fld_int h4
  clear h0 h1 h2 h3 h4 hf hlen
  have s0 := seg cs 0 3 3 rfl
  have s1 := seg cs 3 1 4 rfl
  have s2 := seg cs 4 5 9 rfl
  have s3 := seg cs 9 1 10 rfl
  have s4 := seg cs 10 1 11 rfl
  rw [e4, List.drop_of_length_le (i := 11) (by omega)] at s4
  rw [e3, s4] at s3
  rw [s3] at s2
  rw [e1, s2] at s1
  rw [e0, s1] at s0
  exact ⟨⟨a0, a1, a2, s, t, mo, pl⟩, ⟨(cs.drop 4).take 5, by rw [List.drop_zero] at s0; exact s0.trans (by simp), l2, e2⟩, ts⟩
theorem open_exw : ∀ (m : Nat) (cs : List Value) (x : DataW H × List MemPlace), DataW.trod enc Tryd.prog w base sp held m 44 cs = some x → WOk Tryd.prog 44 x.1 → ∃ y : Ex, ExAt w y cs ∧ esm y := by
  intro m
  induction m using Nat.strongRecOn with
  | _ m ih =>
    intro cs x h hw
    obtain ⟨xs, n, hn, hx, hl, hlen, hf⟩ := DataW.trod_struct Tryd.underlying44 h
    rw [Tryd.cEx] at hl
    obtain ⟨y0, h0⟩ := fld hlen hf 0 28 0 3 ⟨_, rfl, rfl, rfl⟩ Tryd.cId
    obtain ⟨a0, a1, a2, e0, r00, r01, r02⟩ := open_id3 h0
    obtain ⟨y1, h1⟩ := fld hlen hf 1 3 3 1 ⟨_, rfl, rfl, rfl⟩ Tryd.cI
    obtain ⟨k, e1, r1⟩ := fld_int h1
    obtain ⟨y2, h2⟩ := fld hlen hf 2 3 4 1 ⟨_, rfl, rfl, rfl⟩ Tryd.cI
    obtain ⟨nn, e2, r2⟩ := fld_int h2
    obtain ⟨y3, h3⟩ := fld hlen hf 3 28 5 3 ⟨_, rfl, rfl, rfl⟩ Tryd.cId
    obtain ⟨b0, b1, b2, e3, r30, r31, r32⟩ := open_id3 h3
    obtain ⟨y4, h4, hw4⟩ := fldw Tryd.underlying44 hw hx hlen hf 4 31 8 5 ⟨_, rfl, rfl, rfl⟩ Tryd.cTy
    obtain ⟨l4, t, e4, ts4⟩ := open_tyw _ _ _ h4 hw4
    obtain ⟨y5, h5, hw5⟩ := fldw Tryd.underlying44 hw hx hlen hf 5 41 13 1 ⟨_, rfl, rfl, rfl⟩ Tryd.cEs
    obtain ⟨A, len, cap, e5, hl1, hl2, hsz, hel⟩ := elems_atw Tryd.underlying41 Tryd.cEx Tryd.bEx (by omega) h5 hw5
    obtain ⟨y6, h6, hw6⟩ := fldw Tryd.underlying44 hw hx hlen hf 6 42 14 1 ⟨_, rfl, rfl, rfl⟩ Tryd.cSt
    obtain ⟨nv, e6, nvL, nvH, nvS⟩ := open_strsw h6 hw6
    clear h0 h1 h2 h3 h4 h5 h6 hf hlen
    have s0 := seg cs 0 3 3 rfl
    have s1 := seg cs 3 1 4 rfl
    have s2 := seg cs 4 1 5 rfl
    have s3 := seg cs 5 3 8 rfl
    have s4 := seg cs 8 5 13 rfl
    have s5 := seg cs 13 1 14 rfl
    have s6 := seg cs 14 1 15 rfl
    rw [e6, List.drop_of_length_le (i := 15) (by omega)] at s6
    rw [e5, s6] at s5
    rw [s5] at s4
    rw [e3, s4] at s3
    rw [e2, s3] at s2
    rw [e1, s2] at s1
    rw [e0, s1] at s0
    have each : ∀ i, i < len → ∃ z : Ex, ∃ g o cs', A = some ⟨g, o, none⟩ ∧ w.rangeAt g (o + i * 15) cs' ∧ ExAt w z cs' ∧ esm z := by
      intro i hi
      obtain ⟨g, o, cs', y', n', hA, hr, _, hn', ht, hwt⟩ := hel i hi
      obtain ⟨z, hz, hzs⟩ := ih n' (by omega) cs' y' ht hwt
      exact ⟨z, g, o, cs', hA, hr, hz, hzs⟩
    obtain ⟨f, hff⟩ := choose_lt each
    refine ⟨.node a0 a1 a2 k nn b0 b1 b2 t ((List.range len).map f) nvL, ?_, ?_⟩
    · unfold ExAt
      refine ⟨(cs.drop 8).take 5, A, cap, nv, by rw [List.drop_zero] at s0; exact s0.trans (by simp), ⟨l4, by simpa using hl1, hl2⟩, e4, nvH, KxAt.mk fun j x hx => ?_⟩
      obtain ⟨hj, rfl⟩ := map_get hx
      rw [Nat.zero_add]
      obtain ⟨g, o, cs', hA, hr, ht, _⟩ := hff j hj
      exact ⟨g, o, cs', hA, hr, ht⟩
    · unfold esm
      refine ⟨ts4, by simpa using hsz, nvS, esmL_of fun j x hx => ?_⟩
      obtain ⟨hj, rfl⟩ := map_get hx
      obtain ⟨_, _, _, _, _, _, hs⟩ := hff j hj
      exact hs
theorem open_dfw {m : Nat} {cs : List Value} {x : DataW H × List MemPlace} (h : DataW.trod enc Tryd.prog w base sp held m 46 cs = some x) (hw : WOk Tryd.prog 46 x.1) : ∃ y : Df, DfAt w y cs ∧ dsm y := by
  obtain ⟨xs, n, hn, hx, hl, hlen, hf⟩ := DataW.trod_struct Tryd.underlying46 h
  rw [Tryd.cDf] at hl
  obtain ⟨y0, h0⟩ := fld hlen hf 0 28 0 3 ⟨_, rfl, rfl, rfl⟩ Tryd.cId
  obtain ⟨a0, a1, a2, e0, r00, r01, r02⟩ := open_id3 h0
  obtain ⟨y1, h1⟩ := fld hlen hf 1 3 3 1 ⟨_, rfl, rfl, rfl⟩ Tryd.cI
  obtain ⟨k, e1, r1⟩ := fld_int h1
  obtain ⟨y2, h2⟩ := fld hlen hf 2 28 4 3 ⟨_, rfl, rfl, rfl⟩ Tryd.cId
  obtain ⟨m0, m1, m2, e2, r20, r21, r22⟩ := open_id3 h2
  obtain ⟨y3, h3⟩ := fld hlen hf 3 9 7 1 ⟨_, rfl, rfl, rfl⟩ Tryd.cS
  obtain ⟨s, e3, r3⟩ := fld_str h3
  obtain ⟨y4, h4, hw4⟩ := fldw Tryd.underlying46 hw hx hlen hf 4 40 8 1 ⟨_, rfl, rfl, rfl⟩ Tryd.cSs
  obtain ⟨A, len, cap, e4, hl1, hl2, hsz, hel⟩ := elems_atw Tryd.underlying40 Tryd.cSl Tryd.bSl (by omega) h4 hw4
  obtain ⟨y5, h5, hw5⟩ := fldw Tryd.underlying46 hw hx hlen hf 5 31 9 5 ⟨_, rfl, rfl, rfl⟩ Tryd.cTy
  obtain ⟨l5, t, e5, ts5⟩ := open_tyw _ _ _ h5 hw5
  obtain ⟨y6, h6, hw6⟩ := fldw Tryd.underlying46 hw hx hlen hf 6 44 14 15 ⟨_, rfl, rfl, rfl⟩ Tryd.cEx
  obtain ⟨ex, e6, es6⟩ := open_exw _ _ _ h6 hw6
  obtain ⟨y7, h7⟩ := fld hlen hf 7 3 29 1 ⟨_, rfl, rfl, rfl⟩ Tryd.cI
  obtain ⟨pl, e7, r7⟩ := fld_int h7
  obtain ⟨y8, h8, hw8⟩ := fldw Tryd.underlying46 hw hx hlen hf 8 42 30 1 ⟨_, rfl, rfl, rfl⟩ Tryd.cSt
  obtain ⟨lv, e8, lvL, lvH, lvS⟩ := open_strsw h8 hw8
  clear h0 h1 h2 h3 h4 h5 h6 h7 h8 hf hlen
  have s0 := seg cs 0 3 3 rfl
  have s1 := seg cs 3 1 4 rfl
  have s2 := seg cs 4 3 7 rfl
  have s3 := seg cs 7 1 8 rfl
  have s4 := seg cs 8 1 9 rfl
  have s5 := seg cs 9 5 14 rfl
  have s6 := seg cs 14 15 29 rfl
  have s7 := seg cs 29 1 30 rfl
  have s8 := seg cs 30 1 31 rfl
  rw [e8, List.drop_of_length_le (i := 31) (by omega)] at s8
  rw [e7, s8] at s7
  rw [s7] at s6
  rw [s6] at s5
  rw [e4, s5] at s4
  rw [e3, s4] at s3
  rw [e2, s3] at s2
  rw [e1, s2] at s1
  rw [e0, s1] at s0
  have each : ∀ i, i < len → ∃ z : Sl, ∃ g o cs', A = some ⟨g, o, none⟩ ∧ w.rangeAt g (o + i * 11) cs' ∧ SlAt w z cs' ∧ tsm z.ty := by
    intro i hi
    obtain ⟨g, o, cs', y', n', hA, hr, _, hn', ht, hwt⟩ := hel i hi
    obtain ⟨z, hz, hzs⟩ := open_slw ht hwt
    exact ⟨z, g, o, cs', hA, hr, hz, hzs⟩
  obtain ⟨f, hff⟩ := choose_lt each
  refine ⟨⟨a0, a1, a2, k, m0, m1, m2, s, (List.range len).map f, t, ex, pl, lvL⟩, ⟨.slice A len cap, (cs.drop 9).take 5, (cs.drop 14).take 15, lv, by rw [List.drop_zero] at s0; exact s0.trans (by simp), l5, ⟨A, cap, by simp, ⟨by simpa using hl1, hl2⟩, fun j x hx => ?_⟩, e5, e6, lvH⟩, ⟨by simpa using hsz, fun s hs => ?_, ts5, es6, lvS⟩⟩
  · obtain ⟨hj, rfl⟩ := map_get hx
    obtain ⟨g, o, cs', hA, hr, ht, _⟩ := hff j hj
    exact ⟨g, o, cs', hA, hr, ht⟩
  · obtain ⟨i, hi, rfl⟩ := List.mem_map.1 hs
    obtain ⟨_, _, _, _, _, _, h⟩ := hff i (List.mem_range.1 hi)
    exact h
theorem open_prw {m : Nat} {cs : List Value} {x : DataW H × List MemPlace} (h : DataW.trod enc Tryd.prog w base sp held m 26 cs = some x) (hw : WOk Tryd.prog 26 x.1) : ∃ P : List Df, PrAt w P (.agg cs.toArray) ∧ ∀ d ∈ P, dsm d := by
  obtain ⟨xs, n, hn, hx, hl, hlen, hf⟩ := DataW.trod_struct Tryd.underlying26 h
  rw [Tryd.cPr] at hl
  obtain ⟨y0, h0⟩ := fld hlen hf 0 23 0 1 ⟨_, rfl, rfl, rfl⟩ Tryd.cMs
  have e0 : ∃ mv : Value, (cs.drop 0).take 1 = [mv] ∧ mv.oneCell' = true := by
    rcases DataW.trod_slice Tryd.underlying23 h0 with ⟨h1, _⟩ | ⟨a, len, cap, elems, rest, n, hf, h1, _⟩
    · exact ⟨_, h1, rfl⟩
    · exact ⟨_, h1, rfl⟩
  obtain ⟨mv, e0, hmv⟩ := e0
  obtain ⟨y1, h1, hw1⟩ := fldw Tryd.underlying26 hw hx hlen hf 1 24 1 1 ⟨_, rfl, rfl, rfl⟩ Tryd.cDs
  obtain ⟨A, len, cap, e1, hl1, hl2, hsz, hel⟩ := elems_atw Tryd.underlying24 Tryd.cDf Tryd.bDf (by omega) h1 hw1
  clear h0 h1 hf hlen
  have s0 := seg cs 0 1 1 rfl
  have s1 := seg cs 1 1 2 rfl
  rw [e1, List.drop_of_length_le (i := 2) (by omega)] at s1
  rw [e0, s1] at s0
  have each : ∀ i, i < len → ∃ z : Df, ∃ g o cs', A = some ⟨g, o, none⟩ ∧ w.rangeAt g (o + i * 31) cs' ∧ DfAt w z cs' ∧ dsm z := by
    intro i hi
    obtain ⟨g, o, cs', y', n', hA, hr, _, hn', ht, hwt⟩ := hel i hi
    obtain ⟨z, hz, hzs⟩ := open_dfw ht hwt
    exact ⟨z, g, o, cs', hA, hr, hz, hzs⟩
  obtain ⟨f, hff⟩ := choose_lt each
  refine ⟨(List.range len).map f, ⟨mv, A, cap, by rw [List.drop_zero] at s0; rw [s0]; simp, ⟨hmv, by simpa using hl1, hl2⟩, fun j x hx => ?_⟩, fun d hd => ?_⟩
  · obtain ⟨hj, rfl⟩ := map_get hx
    obtain ⟨g, o, cs', hA, hr, ht, _⟩ := hff j hj
    exact ⟨g, o, cs', hA, hr, ht⟩
  · obtain ⟨i, hi, rfl⟩ := List.mem_map.1 hd
    obtain ⟨_, _, _, _, _, _, h⟩ := hff i (List.mem_range.1 hi)
    exact h
end
end Go.Proofs.YtkpoiljioadfgaaDoor

namespace Go.Proofs.YtkpoiljioadfgaaDoor
open Go.ChangeShapes Go.WideShapes Go.ChangeAt Go.RowKit Go.Deep
theorem Tryd.cellsI : Tryd.prog.cellsOf 3 = 1 := by kernel_rfl
theorem Tryd.bytesI : Tryd.prog.bytesOf 3 = 8 := by kernel_rfl
theorem ir_row {n : Int} (h : (Lit.int .i64 n).wf = true) : i64r n := by have := bounds_i64 h; unfold i64r; omega
theorem reach_num : reachBytes = 140737488351232 := by decide
section
variable {H : Type} {enc : TypeId × Value → H} {w : World} {sp : Nat → Bool} {d : DataW H} {p : List MemPlace} {A : Option Addr} {len cap : Nat}
theorem open_iv (hd : DataW.Trod enc Tryd.prog w 0 sp true 22 (.slice A len cap) d p) :
    ∃ zs : List Int, len = zs.length ∧ Rd w w.heap.size A (iv zs) ∧ (∀ x ∈ zs, InR x) ∧ len ≤ cap ∧ cap ≤ maxLen ∧ ((len = 0 ∧ d = .nil) ∨ ∃ es rs, d = .slice es rs ∧ es.length = len) := by
  obtain ⟨fuel, hf⟩ := hd
  rcases open_ints Tryd.underlying22 Tryd.underlying3 Tryd.cellsI hf with ⟨hcs, hx⟩ | ⟨a, l, c, zs, hcs, _, hl, hm, hz, hx, hcell, hwz⟩
  · simp [Value.cells] at hcs
    obtain ⟨rfl, rfl, rfl⟩ := hcs
    exact ⟨[], rfl, Rd.nil _ _ _, by simp, Nat.le_refl _, by simp [maxLen], .inl ⟨rfl, by cases hx; rfl⟩⟩
  · simp [Value.cells] at hcs
    obtain ⟨rfl, rfl, rfl⟩ := hcs
    have hzl : len ≤ zs.length := by rw [hz]; split <;> omega
    refine ⟨zs.take len, by simp; omega, rd_of_cells ?_, ?_, hl, hm, .inr ⟨lits .i64 (zs.take len), lits .i64 (zs.drop len), by cases hx; rfl, by simp [lits]; omega⟩⟩
    · intro j u hu
      have hj : j < len := by have := (List.getElem?_eq_some_iff.1 hu).1; simp [iv] at this; omega
      rw [hcell j (by omega)]
      simp only [iv, List.getElem?_map, List.getElem?_take, hj, if_true, List.getElem?_eq_getElem (show j < zs.length by omega), Option.map_some, Option.some.injEq] at hu
      rw [← hu]
      simp [List.getD, List.getElem?_eq_getElem (show j < zs.length by omega)]
    · intro x hx
      have := bounds_i64 (hwz x (List.mem_of_mem_take hx))
      exact ⟨by omega, by omega⟩
end
theorem int_of_trod {H : Type} {enc : TypeId × Value → H} {P : Program} {w : World} {base : Nat} {sp : Nat → Bool} {held : Bool} {fuel : Nat} {t : TypeId} {k : IntKind} {c : Value} {y : DataW H × List MemPlace}
    (ht : P.underlying t = some (.int k)) (h : DataW.trod enc P w base sp held fuel t [c] = some y) : ∃ n, c = .int k n ∧ y = (.lit (.int k n), []) := by
  cases fuel with
  | zero => simp [DataW.trod] at h
  | succ fuel =>
    cases c <;> simp [DataW.trod, ht] at h
    rename_i k' n
    obtain ⟨⟨rfl, _⟩, rfl⟩ := h
    exact ⟨n, rfl, rfl⟩
theorem mapM_get {α β : Type} (f : α → Option β) : ∀ (l : List α) (ys : List β), l.mapM f = some ys → ∀ (j : Nat) (x : α), l[j]? = some x → ∃ y, ys[j]? = some y ∧ f x = some y
  | [], ys, h, j, x, hx => by simp at hx
  | a :: r, ys, h, j, x, hx => by
    simp only [List.mapM_cons, Option.bind_eq_bind, Option.bind_eq_some_iff, Option.pure_def, Option.some.injEq] at h
    obtain ⟨y, hy, zs, hz, rfl⟩ := h
    cases j with
    | zero => simp at hx; subst hx; exact ⟨y, rfl, hy⟩
    | succ j => exact mapM_get f r zs hz j x (by simpa using hx)
theorem ints_of_trod {H : Type} {enc : TypeId × Value → H} {P : Program} {w : World} {base : Nat} {sp : Nat → Bool} {held : Bool} {fuel n : Nat} {t e : TypeId} {k : IntKind} {l : List Value} {ks : List Nat} {p : List MemPlace}
    (ht : P.underlying t = some (.array n e)) (he : P.underlying e = some (.int k)) (hc : P.cellsOf t = n) (hc1 : P.cellsOf e = 1) (hn : ks.length = n)
    (h : DataW.trod enc P w base sp held fuel t l = some (.agg (ks.map fun (x : Nat) => .lit (.int k (x : Int))), p)) : ∀ (j x : Nat), ks[j]? = some x → l[j]? = some (.int k (x : Int)) := by
  cases fuel with
  | zero => simp [DataW.trod] at h
  | succ fuel =>
    simp only [DataW.trod, ht, hc, hc1] at h
    split at h
    · rename_i hl
      obtain ⟨ys, hys, hag⟩ := Option.map_eq_some_iff.1 h
      have h1 : ys.map (fun x => x.fst) = ks.map fun (x : Nat) => (.lit (.int k (x : Int)) : DataW H) := by
        have := congrArg Prod.fst hag
        simpa using this
      intro j x hx
      have hj : j < n := by rw [← hn]; exact (List.getElem?_eq_some_iff.1 hx).1
      obtain ⟨y, hy, hf⟩ := mapM_get _ _ _ hys j j (by rw [List.getElem?_range hj])
      have hjl : j < l.length := by omega
      rw [Nat.mul_one, List.drop_eq_getElem_cons hjl, List.take_succ_cons, List.take_zero] at hf
      obtain ⟨m, hm, rfl⟩ := int_of_trod he hf
      have h2 := congrArg (fun q => q[j]?) h1
      simp only [List.getElem?_map, hy, hx, Option.map_some, Option.some.injEq, DataW.lit.injEq, Lit.int.injEq] at h2
      rw [List.getElem?_eq_getElem hjl, hm]
      simp at h2
      rw [h2]
    · cases h
theorem glob_pk : Tryd.prog.globalNamed "splicery/value.plainKinds" = some 0 := by kernel_rfl
theorem type_pk : (Tryd.prog.globals[(0 : Nat)]?).map (·.type) = some 110 := by kernel_rfl
theorem glob_dk : Tryd.prog.globalNamed "splicery/value.dataKinds" = some 1 := by kernel_rfl
theorem type_dk : (Tryd.prog.globals[(1 : Nat)]?).map (·.type) = some 130 := by kernel_rfl
theorem cells_a3 : Tryd.prog.cellsOf 110 = 3 := by kernel_rfl
theorem cells_a2 : Tryd.prog.cellsOf 130 = 2 := by kernel_rfl
theorem laid_pk_eq {H : Type} : (Rows.laid_splicery_value_plainKinds : DataW H) = .agg (([0, 1, 4] : List Nat).map fun (x : Nat) => .lit (.int .i64 (x : Int))) := rfl
theorem laid_dk_eq {H : Type} : (Rows.laid_splicery_value_dataKinds : DataW H) = .agg (([2, 3] : List Nat).map fun (x : Nat) => .lit (.int .i64 (x : Int))) := rfl
abbrev LAIDV : List (String × DataW Unit) := [("splicery/value.plainKinds", Rows.laid_splicery_value_plainKinds), ("splicery/value.dataKinds", Rows.laid_splicery_value_dataKinds)]
set_option maxRecDepth 100000 in
theorem Kv_of_laid {W : World} (h : laidMet Tryd.prog LAIDV W) : Kv W := by
  obtain ⟨ps, ⟨g, t, cs, fuel, p, q, hg, ht, hvar, hd, ⟨g2, t2, cs2, fuel2, p2, q2, hg2, ht2, hvar2, hd2, _, _⟩, _⟩, _⟩ := h
  obtain rfl := Option.some.inj (glob_pk.symm.trans hg)
  obtain rfl := Option.some.inj (type_pk.symm.trans ht)
  obtain rfl := Option.some.inj (glob_dk.symm.trans hg2)
  obtain rfl := Option.some.inj (type_dk.symm.trans ht2)
  rw [laid_pk_eq] at hd
  rw [laid_dk_eq] at hd2
  have hall := ints_of_trod Tryd.underlying110 Tryd.underlying3 cells_a3 Tryd.cellsI rfl hd
  have hall2 := ints_of_trod Tryd.underlying130 Tryd.underlying3 cells_a2 Tryd.cellsI rfl hd2
  have hcell : ∀ (j x : Nat), ([0, 1, 4] : List Nat)[j]? = some x → W.cell? ⟨0, j, none⟩ = some (.int .i64 (x : Int)) := fun j x hx => by
    have h1 := World.var?_cell glob_pk hvar j
    rw [h1]
    have h2 := hall j x hx
    simpa using h2
  have hcell2 : ∀ (j x : Nat), ([2, 3] : List Nat)[j]? = some x → W.cell? ⟨1, j, none⟩ = some (.int .i64 (x : Int)) := fun j x hx => by
    have h1 := World.var?_cell glob_dk hvar2 j
    rw [h1]
    have h2 := hall2 j x hx
    simpa using h2
  have h1 := World.block_lt_of_cell? W _ (hcell 0 0 rfl)
  have h2 := World.block_lt_of_cell? W _ (hcell2 0 2 rfl)
  simp at h1 h2
  exact ⟨by omega, hcell 0 0 rfl, hcell 1 1 rfl, hcell 2 4 rfl, hcell2 0 2 rfl, hcell2 1 3 rfl⟩
end Go.Proofs.YtkpoiljioadfgaaDoor

