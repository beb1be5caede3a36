import Derived.Test.YtjbleefpafnhhaaDoorY01
import Derived.Test.YtjbleefpafnhhaaDoorY34
import Derived.Laws.BitsAll
set_option linter.unusedVariables false
set_option linter.unusedSimpArgs false
namespace Go.Proofs.YtjbleefpafnhhaaDoor
open Go.RowKit
theorem map_add0 (A : Option Addr) : Option.map (fun x => Addr.add x 0) A = A := by cases A <;> simp [Addr.add]
set_option maxHeartbeats 400000 in
set_option maxRecDepth 100000 in
theorem BFew_any (A : Option Addr) (n cap B : Nat) (l : List Nat) (w : World) (hn : n = l.length) (hr : Rd w B A (bs l)) (hcap : n ≤ cap ∧ cap ≤ maxLen) :
    Calls Tryd.prog 39 #[.slice A n cap, .int .i64 30] w fun e w' => ∃ v', e = .returned v' ∧ OwnB w' w.heap.size v' (l.take 30) ∧ Below w.heap.size w w' := by
  have hm0 := map_add0 A
  have hmx : cap ≤ 9223372036854775807 := by have := hcap.2; simpa [maxLen] using this
  have h1 := hcap.1
  by_cases hl : n ≤ 30
  · have e1 : (if (n : Int) < 30 then (n : Int) else 30) = (n : Int) := by split <;> omega
    have e2 : (if (30 : Int) < (n : Int) then (30 : Int) else (n : Int)) = (n : Int) := by split <;> omega
    have e3 : (if (n : Int) ≤ 30 then (n : Int) else 30) = (n : Int) := by split <;> omega
    have hni : (n : Int) ≤ (cap : Int) := by omega
    have hn0 : (0 : Int) ≤ (n : Int) := by omega
    have htk : l.take 30 = l := List.take_of_length_le (by omega)
    rw [htk]
    have HR := Lib.hid hr
    have HN := Lib.hid hn
    clear hr hn htk hcap
    go_enter Tryd.func39, Tryd.ntmps39
    go_wp2_with (at_builtin; refine wpList_putL (OwnB.nil _ w.heap.size) HR.out HN.out (Nat.le_refl _) (by have := HN.out; simp; omega) rfl _ _ rfl rfl rfl ?_; intro v1 w1 ho1 hb1; have HO := Lib.hid ho1; have HB := Lib.hid hb1; clear ho1 hb1)
    go_ret
    exact ⟨v1, rfl, by simpa using HO.out, HB.out⟩
  · have e1 : (if (n : Int) < 30 then (n : Int) else 30) = 30 := by split <;> omega
    have e2 : (if (30 : Int) < (n : Int) then (30 : Int) else (n : Int)) = 30 := by split <;> omega
    have e3 : (if (n : Int) ≤ 30 then (n : Int) else 30) = 30 := by split <;> omega
    have hni : (30 : Int) ≤ (cap : Int) := by omega
    have hni2 : 30 ≤ cap := by omega
    have hn0 : (0 : Int) ≤ (n : Int) := by omega
    have hlt : (l.take 30).length = 30 := by rw [List.length_take]; omega
    have hr2 : Rd w B A (bs (l.take 30)) := by
      rcases hr with h | ⟨b, o, rfl, hb, hc⟩
      · have : l = [] := by simpa [bs] using h
        rw [this]; exact .inl (by simp [bs])
      · refine .inr ⟨b, o, rfl, hb, fun j u hu => hc j u ?_⟩
        have hj := (List.getElem?_eq_some_iff.1 hu).1
        rw [bs_len, hlt] at hj
        rw [← hu]
        simp [bs, List.getElem?_map, List.getElem?_take, hj]
    have HR := Lib.hid hr2
    have HN := Lib.hid hlt
    clear hr hr2 hlt hn hcap
    go_enter Tryd.func39, Tryd.ntmps39
    go_wp2_with (at_builtin; refine wpList_putL (OwnB.nil _ w.heap.size) HR.out HN.out.symm (Nat.le_refl _) (by have := HN.out; simp; omega) rfl _ _ rfl rfl rfl ?_; intro v1 w1 ho1 hb1; have HO := Lib.hid ho1; have HB := Lib.hid hb1; clear ho1 hb1)
    go_ret
    exact ⟨v1, rfl, by simpa using HO.out, HB.out⟩
end Go.Proofs.YtjbleefpafnhhaaDoor

namespace Go.Proofs.YtjbleefpafnhhaaDoor
def rr (x n : Nat) : Nat := (x * 2 ^ (32 - n) % 4294967296) ||| (x / 2 ^ n)
def sg0 (x : Nat) : Nat := (rr x 7 ^^^ rr x 18) ^^^ (x / 8)
def sg1 (x : Nat) : Nat := (rr x 17 ^^^ rr x 19) ^^^ (x / 1024)
def bg1 (e : Nat) : Nat := (rr e 6 ^^^ rr e 11) ^^^ rr e 25
def bg0 (a : Nat) : Nat := (rr a 2 ^^^ rr a 13) ^^^ rr a 22
def chs (e f g : Nat) : Nat := (e &&& f) ^^^ ((4294967295 - e) &&& g)
def maj (a b c : Nat) : Nat := ((a &&& b) ^^^ (a &&& c)) ^^^ (b &&& c)
def nextW (w : List Nat) (t : Nat) : Nat := (((w.getD (t - 16) 0 + sg0 (w.getD (t - 15) 0)) % 4294967296 + w.getD (t - 7) 0) % 4294967296 + sg1 (w.getD (t - 2) 0)) % 4294967296
def grow : Nat → List Nat → List Nat
  | 0, w => w
  | n + 1, w => let v := grow n w; v ++ [nextW v v.length]
def word4 (b : List Nat) (i : Nat) : Nat := ((b.getD (4 * i) 0 * 256 + b.getD (4 * i + 1) 0) * 256 + b.getD (4 * i + 2) 0) * 256 + b.getD (4 * i + 3) 0
def words16 (b : List Nat) : List Nat := (List.range 16).map (word4 b)
def sched (b : List Nat) : List Nat := grow 48 (words16 b)
def kc : List Nat := [
  0x428a2f98, 0x71374491, 0xb5c0fbcf, 0xe9b5dba5, 0x3956c25b, 0x59f111f1, 0x923f82a4, 0xab1c5ed5,
  0xd807aa98, 0x12835b01, 0x243185be, 0x550c7dc3, 0x72be5d74, 0x80deb1fe, 0x9bdc06a7, 0xc19bf174,
  0xe49b69c1, 0xefbe4786, 0x0fc19dc6, 0x240ca1cc, 0x2de92c6f, 0x4a7484aa, 0x5cb0a9dc, 0x76f988da,
  0x983e5152, 0xa831c66d, 0xb00327c8, 0xbf597fc7, 0xc6e00bf3, 0xd5a79147, 0x06ca6351, 0x14292967,
  0x27b70a85, 0x2e1b2138, 0x4d2c6dfc, 0x53380d13, 0x650a7354, 0x766a0abb, 0x81c2c92e, 0x92722c85,
  0xa2bfe8a1, 0xa81a664b, 0xc24b8b70, 0xc76c51a3, 0xd192e819, 0xd6990624, 0xf40e3585, 0x106aa070,
  0x19a4c116, 0x1e376c08, 0x2748774c, 0x34b0bcb5, 0x391c0cb3, 0x4ed8aa4a, 0x5b9cca4f, 0x682e6ff3,
  0x748f82ee, 0x78a5636f, 0x84c87814, 0x8cc70208, 0x90befffa, 0xa4506ceb, 0xbef9a3f7, 0xc67178f2]
def h0 : List Nat := [0x6a09e667, 0xbb67ae85, 0x3c6ef372, 0xa54ff53a, 0x510e527f, 0x9b05688c, 0x1f83d9ab, 0x5be0cd19]
structure St where
  a : Nat
  b : Nat
  c : Nat
  d : Nat
  e : Nat
  f : Nat
  g : Nat
  h : Nat
def tx (s : St) (k w : Nat) : Nat := ((((s.h + bg1 s.e) % 4294967296 + chs s.e s.f s.g) % 4294967296 + k) % 4294967296 + w) % 4294967296
def ty (s : St) : Nat := (bg0 s.a + maj s.a s.b s.c) % 4294967296
def step (s : St) (k w : Nat) : St := ⟨(tx s k w + ty s) % 4294967296, s.a, s.b, s.c, (s.d + tx s k w) % 4294967296, s.e, s.f, s.g⟩
def rnds (w : List Nat) (s : St) : Nat → St
  | 0 => s
  | t + 1 => step (rnds w s t) (kc.getD t 0) (w.getD t 0)
def St.of (l : List Nat) : St := ⟨l.getD 0 0, l.getD 1 0, l.getD 2 0, l.getD 3 0, l.getD 4 0, l.getD 5 0, l.getD 6 0, l.getD 7 0⟩
def St.list (s : St) : List Nat := [s.a, s.b, s.c, s.d, s.e, s.f, s.g, s.h]
def add32 (x y : Nat) : Nat := (x + y) % 4294967296
def comp (s b : List Nat) : List Nat := List.zipWith add32 s (rnds (sched b) (St.of s) 64).list
def runB (s : List Nat) : Nat → List Nat → List Nat
  | 0, _ => s
  | n + 1, m => runB (comp s (m.take 64)) n (m.drop 64)
def be64 (n : Nat) : List Nat := (List.range 8).map fun i => n / 2 ^ (56 - 8 * i) % 256
def zer (n : Nat) : Nat := (119 - n % 64) % 64
def pad (m : List Nat) : List Nat := m ++ 128 :: List.replicate (zer m.length) 0 ++ be64 (8 * m.length)
def outB (s : List Nat) : List Nat := (List.range 32).map fun i => s.getD (i / 4) 0 / 2 ^ (24 - i % 4 * 8) % 256
def sha (m : List Nat) : List Nat := outB (runB h0 ((pad m).length / 64) (pad m))
theorem rr_lt (x n : Nat) (hx : x < 4294967296) (hn : n ≤ 32) : rr x n < 4294967296 := by
  unfold rr
  have h1 : x * 2 ^ (32 - n) % 4294967296 < 2 ^ 32 := Nat.mod_lt _ (by decide)
  have h2 : x / 2 ^ n < 2 ^ 32 := Nat.lt_of_le_of_lt (Nat.div_le_self _ _) hx
  exact Nat.or_lt_two_pow h1 h2
theorem xor_lt {x y : Nat} (hx : x < 4294967296) (hy : y < 4294967296) : x ^^^ y < 4294967296 := Nat.xor_lt_two_pow (n := 32) hx hy
theorem and_lt {x y : Nat} (hx : x < 4294967296) : x &&& y < 4294967296 := Nat.lt_of_le_of_lt Nat.and_le_left hx
theorem m32 (x : Nat) : x % 4294967296 < 4294967296 := Nat.mod_lt _ (by decide)
theorem nextW_lt (w : List Nat) (t : Nat) : nextW w t < 4294967296 := m32 _
def AllW (l : List Nat) : Prop := ∀ x ∈ l, x < 4294967296
def AllB (l : List Nat) : Prop := ∀ x ∈ l, x < 256
theorem getD_lt {l : List Nat} {B : Nat} (h : ∀ x ∈ l, x < B) (hB : 0 < B) (i : Nat) : l.getD i 0 < B := by
  rw [List.getD_eq_getElem?_getD]
  by_cases hi : i < l.length
  · rw [List.getElem?_eq_getElem hi]; exact h _ (List.getElem_mem hi)
  · rw [List.getElem?_eq_none (by omega)]; exact hB
theorem grow_len (n : Nat) (w : List Nat) : (grow n w).length = w.length + n := by
  induction n with
  | zero => rfl
  | succ n ih => show (grow n w ++ [_]).length = _; rw [List.length_append, ih]; rfl
theorem grow_succ (n : Nat) (w : List Nat) : grow (n + 1) w = grow n w ++ [nextW (grow n w) (w.length + n)] := by
  show grow n w ++ [nextW (grow n w) (grow n w).length] = _
  rw [grow_len]
theorem grow_all (n : Nat) {w : List Nat} (h : AllW w) : AllW (grow n w) := by
  induction n with
  | zero => exact h
  | succ n ih =>
    rw [grow_succ]
    intro x hx
    rcases List.mem_append.1 hx with hx | hx
    · exact ih x hx
    · rw [List.mem_singleton] at hx; subst hx; exact nextW_lt _ _
theorem word4_lt {b : List Nat} (h : AllB b) (i : Nat) : word4 b i < 4294967296 := by
  have h0 := getD_lt h (by decide) (4 * i)
  have h1 := getD_lt h (by decide) (4 * i + 1)
  have h2 := getD_lt h (by decide) (4 * i + 2)
  have h3 := getD_lt h (by decide) (4 * i + 3)
  unfold word4; omega
theorem words16_all {b : List Nat} (h : AllB b) : AllW (words16 b) := by
  intro x hx
  obtain ⟨i, _, rfl⟩ := List.mem_map.1 hx
  exact word4_lt h i
theorem words16_len (b : List Nat) : (words16 b).length = 16 := by simp [words16]
theorem sched_len (b : List Nat) : (sched b).length = 64 := by rw [sched, grow_len, words16_len]
theorem sched_all {b : List Nat} (h : AllB b) : AllW (sched b) := grow_all 48 (words16_all h)
theorem kc_len : kc.length = 64 := rfl
theorem kc_all : AllW kc := by unfold AllW kc; decide
theorem h0_all : AllW h0 := by unfold AllW h0; decide
structure St.Ok (s : St) : Prop where
  a : s.a < 4294967296
  b : s.b < 4294967296
  c : s.c < 4294967296
  d : s.d < 4294967296
  e : s.e < 4294967296
  f : s.f < 4294967296
  g : s.g < 4294967296
  h : s.h < 4294967296
theorem step_ok {s : St} (h : s.Ok) (k w : Nat) : (step s k w).Ok := ⟨m32 _, h.a, h.b, h.c, m32 _, h.e, h.f, h.g⟩
theorem rnds_ok {s : St} (w : List Nat) (h : s.Ok) : ∀ t, (rnds w s t).Ok
  | 0 => h
  | t + 1 => step_ok (rnds_ok w h t) _ _
theorem of_ok {l : List Nat} (h : AllW l) : (St.of l).Ok := ⟨getD_lt h (by decide) 0, getD_lt h (by decide) 1, getD_lt h (by decide) 2, getD_lt h (by decide) 3, getD_lt h (by decide) 4, getD_lt h (by decide) 5, getD_lt h (by decide) 6, getD_lt h (by decide) 7⟩
theorem comp_len {s : List Nat} (b : List Nat) (h : s.length = 8) : (comp s b).length = 8 := by simp [comp, St.list, h]
theorem comp_all {s : List Nat} (b : List Nat) : AllW (comp s b) := by
  intro x hx
  unfold comp at hx
  rw [List.mem_iff_getElem] at hx
  obtain ⟨i, hi, rfl⟩ := hx
  rw [List.getElem_zipWith]
  exact m32 _
theorem runB_len (n : Nat) : ∀ {s : List Nat} (m : List Nat), s.length = 8 → (runB s n m).length = 8 := by
  induction n with
  | zero => intro s m h; exact h
  | succ n ih => intro s m h; exact ih _ (comp_len _ h)
theorem runB_all (n : Nat) : ∀ {s : List Nat} (m : List Nat), AllW s → AllW (runB s n m) := by
  induction n with
  | zero => intro s m h; exact h
  | succ n ih => intro s m h; exact ih _ (comp_all _)
theorem runB_app (n : Nat) : ∀ (s m x : List Nat), 64 * n ≤ m.length → runB s n (m ++ x) = runB s n m := by
  induction n with
  | zero => intros; rfl
  | succ n ih =>
    intro s m x h
    show runB (comp s ((m ++ x).take 64)) n ((m ++ x).drop 64) = runB (comp s (m.take 64)) n (m.drop 64)
    rw [List.take_append_of_le_length (by omega), List.drop_append_of_le_length (by omega)]
    exact ih _ _ _ (by rw [List.length_drop]; omega)
theorem runB_add (n k : Nat) : ∀ (s m : List Nat), runB s (n + k) m = runB (runB s n m) k (m.drop (64 * n)) := by
  induction n with
  | zero => intro s m; simp [runB]
  | succ n ih =>
    intro s m
    rw [show n + 1 + k = (n + k) + 1 from by omega]
    show runB (comp s (m.take 64)) (n + k) (m.drop 64) = runB (runB (comp s (m.take 64)) n (m.drop 64)) k (m.drop (64 * (n + 1)))
    rw [ih, List.drop_drop]
    congr 2
    omega
theorem runB_one (s b : List Nat) (h : b.length = 64) : runB s 1 b = comp s b := by
  show comp s (b.take 64) = _
  rw [List.take_of_length_le (by omega)]
def sWords (m : List Nat) : List Nat := runB h0 (m.length / 64) m
def sRest (m : List Nat) : List Nat := m.drop (64 * (m.length / 64))
def sBlock (m : List Nat) : List Nat := sRest m ++ List.replicate (64 - m.length % 64) 0
theorem sRest_len (m : List Nat) : (sRest m).length = m.length % 64 := by
  unfold sRest; rw [List.length_drop]; omega
theorem sBlock_len (m : List Nat) : (sBlock m).length = 64 := by
  unfold sBlock; rw [List.length_append, sRest_len, List.length_replicate]; omega
theorem sWords_len (m : List Nat) : (sWords m).length = 8 := runB_len _ _ rfl
theorem sWords_all (m : List Nat) : AllW (sWords m) := runB_all _ _ h0_all
theorem sRest_all {m : List Nat} (h : AllB m) : AllB (sRest m) := fun x hx => h x (List.mem_of_mem_drop hx)
theorem sAdd_part (m x : List Nat) (h : m.length % 64 + x.length < 64) : sWords (m ++ x) = sWords m ∧ sBlock (m ++ x) = sRest m ++ x ++ List.replicate (64 - m.length % 64 - x.length) 0 := by
  have hq : (m ++ x).length / 64 = m.length / 64 := by rw [List.length_append]; omega
  have hr : (m ++ x).length % 64 = m.length % 64 + x.length := by rw [List.length_append]; omega
  refine ⟨?_, ?_⟩
  · unfold sWords
    rw [hq, runB_app _ _ _ _ (by omega)]
  · unfold sBlock sRest
    rw [hq, hr, List.drop_append_of_le_length (by omega)]
    congr 2; omega
theorem sAdd_full (m x : List Nat) (h : m.length % 64 + x.length = 64) : sWords (m ++ x) = comp (sWords m) (sRest m ++ x) ∧ sBlock (m ++ x) = List.replicate 64 0 := by
  have hq : (m ++ x).length / 64 = m.length / 64 + 1 := by rw [List.length_append]; omega
  have hr : (m ++ x).length % 64 = 0 := by rw [List.length_append]; omega
  refine ⟨?_, ?_⟩
  · unfold sWords sRest
    rw [hq, runB_add, runB_app _ _ _ _ (by omega), List.drop_append_of_le_length (by omega), runB_one]
    rw [List.length_append, List.length_drop]; omega
  · unfold sBlock sRest
    rw [hq, hr, List.drop_of_length_le (by rw [List.length_append]; omega)]
    rfl
theorem pad_len (m : List Nat) : (pad m).length = m.length + 1 + zer m.length + 8 := by
  unfold pad be64
  rw [List.length_append, List.length_append, List.length_cons, List.length_replicate, List.length_map, List.length_range]
  omega
theorem sha_one (m : List Nat) (h : m.length % 64 < 56) : sha m = outB (comp (sWords m) (sRest m ++ 128 :: List.replicate (55 - m.length % 64) 0 ++ be64 (8 * m.length))) := by
  unfold sha
  have hz : zer m.length = 55 - m.length % 64 := by unfold zer; omega
  have hl : (pad m).length / 64 = m.length / 64 + 1 := by rw [pad_len, hz]; omega
  rw [hl, runB_add]
  unfold pad
  rw [List.append_assoc, List.append_assoc, runB_app _ _ _ _ (by omega), List.drop_append_of_le_length (by omega), runB_one]
  · unfold sWords sRest
    rw [hz]
  · rw [List.length_append, List.length_drop]; simp [be64, hz]; omega
theorem runB_end2 (m b c : List Nat) (h1 : (sRest m ++ b).length = 64) (h2 : c.length = 64) : runB h0 (m.length / 64 + (1 + 1)) (m ++ (b ++ c)) = comp (comp (sWords m) (sRest m ++ b)) c := by
  have hd : (m ++ (b ++ c)).drop (64 * (m.length / 64)) = (sRest m ++ b) ++ c := by
    rw [List.drop_append_of_le_length (by omega), List.append_assoc]; rfl
  rw [runB_add, runB_app _ _ _ _ (by omega), hd, runB_add, runB_app 1 _ _ _ (by omega), runB_one _ _ h1, List.drop_append_of_le_length (by omega), List.drop_of_length_le (by omega), List.nil_append, runB_one _ _ h2]
  rfl
theorem sha_two (m : List Nat) (h : 56 ≤ m.length % 64) : sha m = outB (comp (comp (sWords m) (sRest m ++ 128 :: List.replicate (63 - m.length % 64) 0)) (List.replicate 56 0 ++ be64 (8 * m.length))) := by
  unfold sha
  have hz : zer m.length = (63 - m.length % 64) + 56 := by unfold zer; omega
  have hl : (pad m).length / 64 = m.length / 64 + (1 + 1) := by rw [pad_len, hz]; omega
  have hp : pad m = m ++ ((128 :: List.replicate (63 - m.length % 64) 0) ++ (List.replicate 56 0 ++ be64 (8 * m.length))) := by
    unfold pad
    rw [hz, ← List.replicate_append_replicate]; simp
  rw [hl, hp, runB_end2]
  · rw [List.length_append, sRest_len, List.length_cons, List.length_replicate]; omega
  · rw [List.length_append, List.length_replicate]; rfl
theorem outB_len (s : List Nat) : (outB s).length = 32 := by simp [outB]
theorem sha_len (m : List Nat) : (sha m).length = 32 := outB_len _
end Go.Proofs.YtjbleefpafnhhaaDoor

namespace Go.Proofs.YtjbleefpafnhhaaDoor
open Go.RowKit
theorem rr_bits (x n p q : Nat) (hx : x < 4294967296) (hp : p = 2 ^ (32 - n)) (hq : q = 2 ^ n) : bits .or .u32 (((x : Int) * (p : Int)) % 4294967296) ((x : Int) / (q : Int)) = ((rr x n : Nat) : Int) := by
  subst hp hq
  have e1 : ((x : Int) * ((2 ^ (32 - n) : Nat) : Int)) % 4294967296 = ((x * 2 ^ (32 - n) % 4294967296 : Nat) : Int) := by simp
  have e2 : (x : Int) / ((2 ^ n : Nat) : Int) = ((x / 2 ^ n : Nat) : Int) := by simp
  have h2 : x / 2 ^ n < 4294967296 := Nat.lt_of_le_of_lt (Nat.div_le_self _ _) hx
  rw [e1, e2, u32_or_nat _ _ (Nat.mod_lt _ (by decide)) h2]
  rfl
set_option maxHeartbeats 400000 in
set_option maxRecDepth 100000 in
theorem rol2 (x : Nat) (w : World) (hx : x < 4294967296) :
    Calls Tryd.prog 96 #[.int .u32 (x : Int), .int .i64 (-2)] w fun e w' => e = .returned (.int .u32 ((rr x 2 : Nat) : Int)) ∧ w = w' := by
  have hs : bits BinOp.and IntKind.u64 (IntKind.u64.wrap (-2)) 31 = 30 := by kernel_rfl
  go_enter Tryd.func96, Tryd.ntmps96
  go_wp2_with fail
  go_ret
  have hr := rr_bits x 2 1073741824 4 hx rfl rfl
  exact ⟨by rw [← hr]; rfl, rfl⟩
theorem rotr2 (x : Nat) (w : World) (hx : x < 4294967296) :
    Calls Tryd.prog 95 #[.int .u32 (x : Int), .int .i64 2] w fun e w' => e = .returned (.int .u32 ((rr x 2 : Nat) : Int)) ∧ w = w' := by
  go_enter Tryd.func95, Tryd.ntmps95
  go_wp2_with (go_at_call 96; refine (rol2 x _ hx).mono ?_; rintro e w1 ⟨rfl, rfl⟩)
  go_ret
  exact ⟨rfl, rfl⟩
set_option maxHeartbeats 400000 in
set_option maxRecDepth 100000 in
theorem rol6 (x : Nat) (w : World) (hx : x < 4294967296) :
    Calls Tryd.prog 96 #[.int .u32 (x : Int), .int .i64 (-6)] w fun e w' => e = .returned (.int .u32 ((rr x 6 : Nat) : Int)) ∧ w = w' := by
  have hs : bits BinOp.and IntKind.u64 (IntKind.u64.wrap (-6)) 31 = 26 := by kernel_rfl
  go_enter Tryd.func96, Tryd.ntmps96
  go_wp2_with fail
  go_ret
  have hr := rr_bits x 6 67108864 64 hx rfl rfl
  exact ⟨by rw [← hr]; rfl, rfl⟩
theorem rotr6 (x : Nat) (w : World) (hx : x < 4294967296) :
    Calls Tryd.prog 95 #[.int .u32 (x : Int), .int .i64 6] w fun e w' => e = .returned (.int .u32 ((rr x 6 : Nat) : Int)) ∧ w = w' := by
  go_enter Tryd.func95, Tryd.ntmps95
  go_wp2_with (go_at_call 96; refine (rol6 x _ hx).mono ?_; rintro e w1 ⟨rfl, rfl⟩)
  go_ret
  exact ⟨rfl, rfl⟩
set_option maxHeartbeats 400000 in
set_option maxRecDepth 100000 in
theorem rol7 (x : Nat) (w : World) (hx : x < 4294967296) :
    Calls Tryd.prog 96 #[.int .u32 (x : Int), .int .i64 (-7)] w fun e w' => e = .returned (.int .u32 ((rr x 7 : Nat) : Int)) ∧ w = w' := by
  have hs : bits BinOp.and IntKind.u64 (IntKind.u64.wrap (-7)) 31 = 25 := by kernel_rfl
  go_enter Tryd.func96, Tryd.ntmps96
  go_wp2_with fail
  go_ret
  have hr := rr_bits x 7 33554432 128 hx rfl rfl
  exact ⟨by rw [← hr]; rfl, rfl⟩
theorem rotr7 (x : Nat) (w : World) (hx : x < 4294967296) :
    Calls Tryd.prog 95 #[.int .u32 (x : Int), .int .i64 7] w fun e w' => e = .returned (.int .u32 ((rr x 7 : Nat) : Int)) ∧ w = w' := by
  go_enter Tryd.func95, Tryd.ntmps95
  go_wp2_with (go_at_call 96; refine (rol7 x _ hx).mono ?_; rintro e w1 ⟨rfl, rfl⟩)
  go_ret
  exact ⟨rfl, rfl⟩
set_option maxHeartbeats 400000 in
set_option maxRecDepth 100000 in
theorem rol11 (x : Nat) (w : World) (hx : x < 4294967296) :
    Calls Tryd.prog 96 #[.int .u32 (x : Int), .int .i64 (-11)] w fun e w' => e = .returned (.int .u32 ((rr x 11 : Nat) : Int)) ∧ w = w' := by
  have hs : bits BinOp.and IntKind.u64 (IntKind.u64.wrap (-11)) 31 = 21 := by kernel_rfl
  go_enter Tryd.func96, Tryd.ntmps96
  go_wp2_with fail
  go_ret
  have hr := rr_bits x 11 2097152 2048 hx rfl rfl
  exact ⟨by rw [← hr]; rfl, rfl⟩
theorem rotr11 (x : Nat) (w : World) (hx : x < 4294967296) :
    Calls Tryd.prog 95 #[.int .u32 (x : Int), .int .i64 11] w fun e w' => e = .returned (.int .u32 ((rr x 11 : Nat) : Int)) ∧ w = w' := by
  go_enter Tryd.func95, Tryd.ntmps95
  go_wp2_with (go_at_call 96; refine (rol11 x _ hx).mono ?_; rintro e w1 ⟨rfl, rfl⟩)
  go_ret
  exact ⟨rfl, rfl⟩
set_option maxHeartbeats 400000 in
set_option maxRecDepth 100000 in
theorem rol13 (x : Nat) (w : World) (hx : x < 4294967296) :
    Calls Tryd.prog 96 #[.int .u32 (x : Int), .int .i64 (-13)] w fun e w' => e = .returned (.int .u32 ((rr x 13 : Nat) : Int)) ∧ w = w' := by
  have hs : bits BinOp.and IntKind.u64 (IntKind.u64.wrap (-13)) 31 = 19 := by kernel_rfl
  go_enter Tryd.func96, Tryd.ntmps96
  go_wp2_with fail
  go_ret
  have hr := rr_bits x 13 524288 8192 hx rfl rfl
  exact ⟨by rw [← hr]; rfl, rfl⟩
theorem rotr13 (x : Nat) (w : World) (hx : x < 4294967296) :
    Calls Tryd.prog 95 #[.int .u32 (x : Int), .int .i64 13] w fun e w' => e = .returned (.int .u32 ((rr x 13 : Nat) : Int)) ∧ w = w' := by
  go_enter Tryd.func95, Tryd.ntmps95
  go_wp2_with (go_at_call 96; refine (rol13 x _ hx).mono ?_; rintro e w1 ⟨rfl, rfl⟩)
  go_ret
  exact ⟨rfl, rfl⟩
set_option maxHeartbeats 400000 in
set_option maxRecDepth 100000 in
theorem rol17 (x : Nat) (w : World) (hx : x < 4294967296) :
    Calls Tryd.prog 96 #[.int .u32 (x : Int), .int .i64 (-17)] w fun e w' => e = .returned (.int .u32 ((rr x 17 : Nat) : Int)) ∧ w = w' := by
  have hs : bits BinOp.and IntKind.u64 (IntKind.u64.wrap (-17)) 31 = 15 := by kernel_rfl
  go_enter Tryd.func96, Tryd.ntmps96
  go_wp2_with fail
  go_ret
  have hr := rr_bits x 17 32768 131072 hx rfl rfl
  exact ⟨by rw [← hr]; rfl, rfl⟩
theorem rotr17 (x : Nat) (w : World) (hx : x < 4294967296) :
    Calls Tryd.prog 95 #[.int .u32 (x : Int), .int .i64 17] w fun e w' => e = .returned (.int .u32 ((rr x 17 : Nat) : Int)) ∧ w = w' := by
  go_enter Tryd.func95, Tryd.ntmps95
  go_wp2_with (go_at_call 96; refine (rol17 x _ hx).mono ?_; rintro e w1 ⟨rfl, rfl⟩)
  go_ret
  exact ⟨rfl, rfl⟩
set_option maxHeartbeats 400000 in
set_option maxRecDepth 100000 in
theorem rol18 (x : Nat) (w : World) (hx : x < 4294967296) :
    Calls Tryd.prog 96 #[.int .u32 (x : Int), .int .i64 (-18)] w fun e w' => e = .returned (.int .u32 ((rr x 18 : Nat) : Int)) ∧ w = w' := by
  have hs : bits BinOp.and IntKind.u64 (IntKind.u64.wrap (-18)) 31 = 14 := by kernel_rfl
  go_enter Tryd.func96, Tryd.ntmps96
  go_wp2_with fail
  go_ret
  have hr := rr_bits x 18 16384 262144 hx rfl rfl
  exact ⟨by rw [← hr]; rfl, rfl⟩
theorem rotr18 (x : Nat) (w : World) (hx : x < 4294967296) :
    Calls Tryd.prog 95 #[.int .u32 (x : Int), .int .i64 18] w fun e w' => e = .returned (.int .u32 ((rr x 18 : Nat) : Int)) ∧ w = w' := by
  go_enter Tryd.func95, Tryd.ntmps95
  go_wp2_with (go_at_call 96; refine (rol18 x _ hx).mono ?_; rintro e w1 ⟨rfl, rfl⟩)
  go_ret
  exact ⟨rfl, rfl⟩
set_option maxHeartbeats 400000 in
set_option maxRecDepth 100000 in
theorem rol19 (x : Nat) (w : World) (hx : x < 4294967296) :
    Calls Tryd.prog 96 #[.int .u32 (x : Int), .int .i64 (-19)] w fun e w' => e = .returned (.int .u32 ((rr x 19 : Nat) : Int)) ∧ w = w' := by
  have hs : bits BinOp.and IntKind.u64 (IntKind.u64.wrap (-19)) 31 = 13 := by kernel_rfl
  go_enter Tryd.func96, Tryd.ntmps96
  go_wp2_with fail
  go_ret
  have hr := rr_bits x 19 8192 524288 hx rfl rfl
  exact ⟨by rw [← hr]; rfl, rfl⟩
theorem rotr19 (x : Nat) (w : World) (hx : x < 4294967296) :
    Calls Tryd.prog 95 #[.int .u32 (x : Int), .int .i64 19] w fun e w' => e = .returned (.int .u32 ((rr x 19 : Nat) : Int)) ∧ w = w' := by
  go_enter Tryd.func95, Tryd.ntmps95
  go_wp2_with (go_at_call 96; refine (rol19 x _ hx).mono ?_; rintro e w1 ⟨rfl, rfl⟩)
  go_ret
  exact ⟨rfl, rfl⟩
set_option maxHeartbeats 400000 in
set_option maxRecDepth 100000 in
theorem rol22 (x : Nat) (w : World) (hx : x < 4294967296) :
    Calls Tryd.prog 96 #[.int .u32 (x : Int), .int .i64 (-22)] w fun e w' => e = .returned (.int .u32 ((rr x 22 : Nat) : Int)) ∧ w = w' := by
  have hs : bits BinOp.and IntKind.u64 (IntKind.u64.wrap (-22)) 31 = 10 := by kernel_rfl
  go_enter Tryd.func96, Tryd.ntmps96
  go_wp2_with fail
  go_ret
  have hr := rr_bits x 22 1024 4194304 hx rfl rfl
  exact ⟨by rw [← hr]; rfl, rfl⟩
theorem rotr22 (x : Nat) (w : World) (hx : x < 4294967296) :
    Calls Tryd.prog 95 #[.int .u32 (x : Int), .int .i64 22] w fun e w' => e = .returned (.int .u32 ((rr x 22 : Nat) : Int)) ∧ w = w' := by
  go_enter Tryd.func95, Tryd.ntmps95
  go_wp2_with (go_at_call 96; refine (rol22 x _ hx).mono ?_; rintro e w1 ⟨rfl, rfl⟩)
  go_ret
  exact ⟨rfl, rfl⟩
set_option maxHeartbeats 400000 in
set_option maxRecDepth 100000 in
theorem rol25 (x : Nat) (w : World) (hx : x < 4294967296) :
    Calls Tryd.prog 96 #[.int .u32 (x : Int), .int .i64 (-25)] w fun e w' => e = .returned (.int .u32 ((rr x 25 : Nat) : Int)) ∧ w = w' := by
  have hs : bits BinOp.and IntKind.u64 (IntKind.u64.wrap (-25)) 31 = 7 := by kernel_rfl
  go_enter Tryd.func96, Tryd.ntmps96
  go_wp2_with fail
  go_ret
  have hr := rr_bits x 25 128 33554432 hx rfl rfl
  exact ⟨by rw [← hr]; rfl, rfl⟩
theorem rotr25 (x : Nat) (w : World) (hx : x < 4294967296) :
    Calls Tryd.prog 95 #[.int .u32 (x : Int), .int .i64 25] w fun e w' => e = .returned (.int .u32 ((rr x 25 : Nat) : Int)) ∧ w = w' := by
  go_enter Tryd.func95, Tryd.ntmps95
  go_wp2_with (go_at_call 96; refine (rol25 x _ hx).mono ?_; rintro e w1 ⟨rfl, rfl⟩)
  go_ret
  exact ⟨rfl, rfl⟩
end Go.Proofs.YtjbleefpafnhhaaDoor

namespace Go.Proofs.YtjbleefpafnhhaaDoor
open Go.RowKit
theorem run_index_arr {P : Program} (w : World) (t e : TypeId) (n : Nat) (k kk : IntKind) (cs : Array Value) (i : Nat) (v : Value) (ht : P.underlying t = some (.array n e)) (he : P.underlying e = some (.int kk)) (hi : (P.info? e).map (·.size) = some 1) (hin : i < n) (hv : cs[i]? = some v) :
    (Instr.index t (.agg cs) (.int k (i : Int))).run P w = .ok v w := by
  have h1 := run_part w e kk he cs i v hv
  obtain ⟨i0, hi0, hi1⟩ := Option.map_eq_some_iff.1 hi
  have hn : (0 : Int) ≤ (i : Int) ∧ (i : Int) < (n : Int) := by omega
  simp [Instr.index, run_underlying ht, asIntOf, hn, sizeOf, typeInfo, hi0, hi1, h1]
  intro h; omega
end Go.Proofs.YtjbleefpafnhhaaDoor

namespace Go.Proofs.YtjbleefpafnhhaaDoor
def pw (b : List Nat) (j : Nat) : Nat → Nat
  | 0 => 0
  | m + 1 => pw b j m * 256 + b.getD (4 * j + m) 0
def packW (b : List Nat) (k : Nat) : List Nat := (List.range 64).map fun j => pw b j (min 4 (k - 4 * j))
theorem packW_len (b : List Nat) (k : Nat) : (packW b k).length = 64 := by simp [packW]
theorem packW_get (b : List Nat) (k j : Nat) (hj : j < 64) : (packW b k)[j]? = some (pw b j (min 4 (k - 4 * j))) := by
  simp [packW, hj]
theorem packW_zero (b : List Nat) : packW b 0 = List.replicate 64 0 := by
  apply List.ext_getElem?
  intro j
  by_cases hj : j < 64
  · rw [packW_get b 0 j hj, List.getElem?_replicate, if_pos hj]
    simp [pw]
  · rw [List.getElem?_eq_none (by rw [packW_len]; omega), List.getElem?_eq_none (by rw [List.length_replicate]; omega)]
theorem packW_set (b : List Nat) (k : Nat) (hk : k < 64) : (packW b k).set (k / 4) (pw b (k / 4) (k % 4) * 256 + b.getD k 0) = packW b (k + 1) := by
  apply List.ext_getElem?
  intro j
  by_cases hj : j < 64
  · rw [packW_get b (k + 1) j hj]
    by_cases e : k / 4 = j
    · subst e
      rw [List.getElem?_set_self (by rw [packW_len]; exact hj)]
      have h1 : min 4 (k + 1 - 4 * (k / 4)) = k % 4 + 1 := by omega
      have h2 : 4 * (k / 4) + k % 4 = k := by omega
      rw [h1, pw, h2]
    · rw [List.getElem?_set_ne e, packW_get b k j hj]
      have h1 : min 4 (k + 1 - 4 * j) = min 4 (k - 4 * j) := by omega
      rw [h1]
  · rw [List.getElem?_eq_none (by rw [List.length_set, packW_len]; omega), List.getElem?_eq_none (by rw [packW_len]; omega)]
theorem packW_old (b : List Nat) (k : Nat) (hk : k < 64) : (packW b k)[k / 4]? = some (pw b (k / 4) (k % 4)) := by
  rw [packW_get b k _ (by omega)]
  have h1 : min 4 (k - 4 * (k / 4)) = k % 4 := by omega
  rw [h1]
theorem pw_lt {b : List Nat} (h : AllB b) (j : Nat) : ∀ m, pw b j m < 256 ^ m
  | 0 => by simp [pw]
  | m + 1 => by
    have h1 := pw_lt h j m
    have h2 := getD_lt h (by decide) (4 * j + m)
    rw [pw, Nat.pow_succ]
    have : (pw b j m + 1) * 256 ≤ 256 ^ m * 256 := Nat.mul_le_mul_right _ h1
    omega
theorem pw_lt3 {b : List Nat} (h : AllB b) (j m : Nat) (hm : m < 4) : pw b j m < 16777216 := by
  have h1 := pw_lt h j m
  have h2 : 256 ^ m ≤ 256 ^ 3 := Nat.pow_le_pow_right (by decide) (by omega)
  have h3 : 256 ^ 3 = 16777216 := by decide
  omega
theorem packW_all (b : List Nat) : packW b 64 = words16 b ++ List.replicate 48 0 := by
  apply List.ext_getElem?
  intro j
  by_cases hj : j < 64
  · rw [packW_get b 64 j hj]
    by_cases h16 : j < 16
    · rw [List.getElem?_append_left (by rw [words16_len]; exact h16)]
      have h1 : min 4 (64 - 4 * j) = 4 := by omega
      rw [h1]
      simp [words16, h16, word4, pw]
    · rw [List.getElem?_append_right (by rw [words16_len]; omega), words16_len, List.getElem?_replicate, if_pos (by omega)]
      have h1 : min 4 (64 - 4 * j) = 0 := by omega
      rw [h1]; rfl
  · rw [List.getElem?_eq_none (by rw [packW_len]; omega), List.getElem?_eq_none (by simp [words16_len]; omega)]
def gW (b : List Nat) (n : Nat) : List Nat := grow n (words16 b) ++ List.replicate (48 - n) 0
theorem gW_zero (b : List Nat) : gW b 0 = packW b 64 := by rw [packW_all]; rfl
theorem gW_len (b : List Nat) (n : Nat) (hn : n ≤ 48) : (gW b n).length = 64 := by
  unfold gW; rw [List.length_append, grow_len, words16_len, List.length_replicate]; omega
theorem gW_all (b : List Nat) : gW b 48 = sched b := by unfold gW sched; simp
theorem gW_set (b : List Nat) (n : Nat) (hn : n < 48) : (gW b n).set (16 + n) (nextW (grow n (words16 b)) (16 + n)) = gW b (n + 1) := by
  unfold gW
  have hl : (grow n (words16 b)).length = 16 + n := by rw [grow_len, words16_len]
  have hr : 48 - n = (48 - (n + 1)) + 1 := by omega
  rw [grow_succ, words16_len, List.set_append_right _ _ (by omega), hl, Nat.sub_self, hr, List.replicate_succ, List.set_cons_zero]
  simp
theorem gW_get (b : List Nat) (n j : Nat) (hj : j < 16 + n) : (gW b n)[j]? = some ((grow n (words16 b)).getD j 0) := by
  unfold gW
  have hl : (grow n (words16 b)).length = 16 + n := by rw [grow_len, words16_len]
  rw [List.getElem?_append_left (by omega), List.getD_eq_getElem?_getD, List.getElem?_eq_getElem (by omega)]
  rfl
theorem gW_any (b : List Nat) (n j : Nat) (hj : j < 64) (hn : n ≤ 48) : ∃ x, (gW b n)[j]? = some x := ⟨_, List.getElem?_eq_getElem (by rw [gW_len b n hn]; exact hj)⟩
end Go.Proofs.YtjbleefpafnhhaaDoor

