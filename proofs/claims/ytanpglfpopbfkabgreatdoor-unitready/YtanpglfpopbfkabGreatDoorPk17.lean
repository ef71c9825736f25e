/- The package variables of Go's library that stand as they were laid ('Tab', 'Vars'), and what strconv.Itoa, strings.Join do in their presence. The contract of meta.written. The contracts of meta.ImageText, RootText, ReleaseText, Name, ImageName. The contracts of meta.Name, ImageName. -/
import Derived.Test.YtanpglfpopbfkabGreatDoorPk16
import Derived.Test.YtanpglfpopbfkabGreatDoorMShelf
import Derived.Deep.RegionHeld3
import Derived.Deep.DeepCutAuto
namespace Go.Proofs.YtanpglfpopbfkabGreatDoor
open Go.RowKit

/-- A text of these bytes. -/
def bs (l : List UInt8) : ByteArray := ⟨l.toArray⟩
theorem bs_data (l : List UInt8) : (bs l).data.toList = l := by simp [bs]
theorem bs_size (l : List UInt8) : (bs l).size = l.length := rfl
theorem var_below {w w' : World} {n : String} {cs : Array Value} (h : w.var? Tryz.prog n = some cs) (hb : Below w.heap.size w w') : w'.var? Tryz.prog n = some cs := by
  unfold World.var? at h ⊢
  cases hg : Tryz.prog.globalNamed n with
  | none => rw [hg] at h; cases h
  | some g =>
    rw [hg] at h
    simp only [Option.bind_some] at h ⊢
    have hlt : g < w.heap.size := by
      cases hx : w.heap[g]? with
      | none => rw [hx] at h; cases h
      | some o => exact (Array.getElem?_eq_some_iff.1 hx).1
    rw [hb.block g hlt]
    exact h

/-- The table that strconv.Itoa reads stands as it was laid. -/
def Tab (w : World) : Prop := Lib.TabIs Tryz.prog w "internal/strconv.uint64pow10" .u64 Lib.pow10Tab

theorem Tab.below {w w' : World} (h : Tab w) (hb : Below w.heap.size w w') : Tab w' := var_below h hb
theorem Tab.alloc {w : World} (h : Tab w) (o : Obj) : Tab (w.alloc o) := h.below ((Below.refl _ _).alloc (Nat.le_refl _) _)

theorem grow_below (w : World) (os : Array Obj) : Below w.heap.size w (Sort.grow w os) :=
  ⟨rfl, rfl, rfl, by simp, fun k hk => Sort.heap_grow_old w os hk⟩

theorem itoa_any (n : Int) (hn : I64 n) (w : World) (hT : Tab w) :
    Calls Tryz.prog 72 #[.int .i64 n] w fun e w' => e = .returned (.string (bs (Lib.itoa n))) ∧ Below w.heap.size w w' := by
  refine (Tryz.strconv_Itoa n hn.1 hn.2 w hT).mono ?_
  rintro e w' ⟨rfl, k, os, rfl⟩
  exact ⟨rfl, (below_drewN (Below.refl _ _) k).trans (grow_below (w.drewN k) os : Below (w.drewN k).heap.size _ _)⟩

/-- strings.Join of a row of texts. -/
theorem join_any (a : Option Addr) (n c : Nat) (ss : List ByteArray) (sep : List UInt8) (w : World) (h : IsStrs w a ss) (hn : ss.length = n) (hc : n ≤ c) (hm : n ≤ 140737488355328)
    (hlen : (Lib.join (ss.map (·.data.toList)) sep).length ≤ 140737488355328) :
    Calls Tryz.prog 40 #[.slice a n c, .string (bs sep)] w fun e w' => e = .returned (.string (bs (Lib.join (ss.map (·.data.toList)) sep))) ∧ Below w.heap.size w w' := by
  subst hn
  rcases h with rfl | ⟨b, off, rfl, hcell⟩
  · refine (Tryz.strings_Join_none a c (bs sep) w).mono ?_
    rintro e w' ⟨rfl, rfl⟩
    exact ⟨rfl, Below.refl _ _⟩
  · by_cases h0 : ss = []
    · subst h0
      refine (Tryz.strings_Join_none _ c (bs sep) w).mono ?_
      rintro e w' ⟨rfl, rfl⟩
      exact ⟨rfl, Below.refl _ _⟩
    have hpos : 0 < ss.length := by cases ss with
      | nil => exact absurd rfl h0
      | cons x r => simp
    have := Tryz.strings_Join b off c ss (bs sep) w (fun j x hx => by
      obtain ⟨hj, hx⟩ := List.getElem?_eq_some_iff.1 hx
      have := hcell j hj
      rw [show ss.getD j ByteArray.empty = x by simp [hj, hx]] at this
      exact this) (cell_lt (hcell 0 hpos)) hm hc (by rw [bs_data]; exact hlen)
    rw [bs_data] at this
    exact this

end Go.Proofs.YtanpglfpopbfkabGreatDoor

namespace Go.Proofs.YtanpglfpopbfkabGreatDoor
open Go.RowKit

/-- The texts of the numbers so far, then empty ones. -/
def tl (xs : List Int) (n k : Nat) : List ByteArray := (xs.take k).map (fun x => bs (Lib.itoa x)) ++ List.replicate (n - k) ByteArray.empty

theorem tl_len (xs : List Int) (n k : Nat) (hn : xs.length = n) (hk : k ≤ n) : (tl xs n k).length = n := by simp [tl]; omega
theorem tl_set {xs : List Int} {n k : Nat} (hn : xs.length = n) (hk : k < xs.length) : (tl xs n k).set k (bs (Lib.itoa xs[k])) = tl xs n (k + 1) := by
  unfold tl
  have hl : ((xs.take k).map (fun x => bs (Lib.itoa x))).length = k := by simp; omega
  rw [List.set_append_right _ _ (by omega), hl, Nat.sub_self, List.take_succ_eq_append_getElem hk, List.map_append, show n - k = (n - (k + 1)) + 1 by omega, List.replicate_succ]
  simp
theorem tl_all {xs : List Int} {n : Nat} (hn : xs.length = n) : (tl xs n n).map (·.data.toList) = xs.map Lib.itoa := by
  unfold tl
  rw [List.take_of_length_le (by omega)]
  simp [bs]

theorem wr_short {xs : List Int} (hx : ∀ x ∈ xs, I64 x) (h : xs.length ≤ 64) : (wr xs).length ≤ 2000 := by
  have := wr_len 21 xs (fun x hxm => Lib.itoa_length_le x (hx x hxm).1 (hx x hxm).2)
  have : xs.length * 22 ≤ 64 * 22 := Nat.mul_le_mul_right _ h
  omega

set_option maxHeartbeats 800000 in
set_option maxRecDepth 100000 in
theorem written_any (a : Option Addr) (n c : Nat) (xs : List Int) (w : World) (h : IsInts w a xs) (hn : xs.length = n) (hx : ∀ x ∈ xs, I64 x) (hs : n ≤ 64) (hT : Tab w) :
    Calls Tryz.prog 38 #[.slice a n c] w fun e w' => e = .returned (.string (bs (wr xs))) ∧ Below w.heap.size w w' := by
  have HN := hide hn
  have hmk := make_strs n w (by omega)
  have HJ := hide (fun W (hW : IsStrs W (some ⟨w.heap.size, 0, none⟩) (tl xs n n)) => join_any (some ⟨w.heap.size, 0, none⟩) n n (tl xs n n) [32] W hW (tl_len xs n n hn (Nat.le_refl _)) (Nat.le_refl _) (by omega) (by
    rw [tl_all hn]
    have := wr_short hx (by omega)
    unfold wr at this
    omega))
  rw [tl_all hn] at HJ
  have h0 : Hid (OwnStrs (w.alloc (.cells (svals (List.replicate n ByteArray.empty)).toArray 9)) w.heap.size (tl xs n 0)) := by
    show OwnStrs _ _ _
    unfold OwnStrs tl
    simpa using heap_alloc_last w (.cells (svals (List.replicate n ByteArray.empty)).toArray 9)
  have hw0 : Below w.heap.size w (w.alloc (.cells (svals (List.replicate n ByteArray.empty)).toArray 9)) := (Below.refl _ _).alloc (Nat.le_refl _) _
  clear hn
  go_enter Tryz.func38, Tryz.ntmps38
  go_wp2_with fail
  go_loopw [11] (fun i wr => ∃ k : Nat, k ≤ n ∧ i = .int .i64 k ∧ Below w.heap.size w wr ∧ Hid (OwnStrs wr w.heap.size (tl xs n k))) (fun i _ => n - (intOf i).toNat)
  case atStart => exact ⟨0, Nat.zero_le _, rfl, hw0, h0⟩
  case round =>
    clear h0 hw0 hmk
    obtain ⟨k, hk, rfl, hw, ho⟩ := hrel
    by_cases hlt : k < n
    · have h1 := h.below hw
      rcases h1 with rfl | ⟨b0, o0, rfl, hc0⟩
      · have := HN.out
        simp at this
        omega
      have hkx : k < xs.length := by rw [HN.out]; exact hlt
      have e0 := hc0 k hkx
      rw [show xs.getD k 0 = xs[k] by simp [hkx]] at e0
      have hi := hx xs[k] (List.getElem_mem hkx)
      have ltw := ho.out.lt
      have HS := hide (tl_set HN.out hkx)
      have hTr := hT.below hw
      have HL := hide (tl_len xs n k HN.out hk)
      clear hc0
      go_wp2_with fail
      refine (itoa_any _ hi _ hTr).mono ?_
      rintro e w1 ⟨rfl, hb1⟩
      have ho1 := hide (ho.out.below hb1 ltw)
      have hf1 := ho1.out.free k
      have hc1 := ho1.out.cell k (by rw [HL.out]; exact hlt)
      have hw1 := hw.trans (hb1.mono hw.size)
      go_wp2_with fail
      go_roundw
      case rel =>
        refine ⟨k + 1, by omega, by go_num, hw1.setCell (Nat.le_refl _) _, ?_⟩
        show OwnStrs _ _ _
        rw [← HS.out]
        exact ho1.out.set k _
      case measure => simp [intOf]; omega
    · have hkn : k = n := by omega
      subst hkn
      go_wp2_with fail
      refine (unhide HJ _ ho.out.isStrs).mono ?_
      rintro e w1 ⟨rfl, hb1⟩
      go_wp2_with fail
      go_ret
      exact ⟨rfl, hw.trans (hb1.mono hw.size)⟩

end Go.Proofs.YtanpglfpopbfkabGreatDoor

namespace Go.Proofs.YtanpglfpopbfkabGreatDoor
open Go.RowKit

def imgTx (xs : List Int) : List UInt8 := if imgE xs = 0 then imgT xs else []
theorem bs_append (a b : List UInt8) : bs a ++ bs b = bs (a ++ b) := by
  apply ByteArray.ext
  simp [bs]
theorem app_two {s : ByteArray} (a b : List UInt8) (h : s = bs a) : s ++ bs b = bs (a ++ b) := by rw [h, bs_append]
theorem ret_pair {s t : ByteArray} {q : Int} (h : s = t) : Ending.returned (.tuple #[.string s, .int .i64 q]) = .returned (.tuple #[.string t, .int .i64 q]) := by rw [h]

theorem img_I64 {xs : List Int} (h : imgE xs = 0) : ∀ x ∈ xs, I64 x := fun x hx => by
  have := (imgE_ok h).2 x hx
  exact ⟨by omega, by omega⟩

set_option maxHeartbeats 800000 in
set_option maxRecDepth 100000 in
theorem imageText_any (a : Option Addr) (n c : Nat) (xs : List Int) (w : World) (h : IsInts w a xs) (hn : xs.length = n) (hm : n ≤ maxLen) (hT : Tab w) :
    Calls Tryz.prog 11 #[.slice a n c] w fun e w' => e = .returned (.tuple #[.string (bs (imgTx xs)), .int .i64 (imgE xs)]) ∧ Below w.heap.size w w' := by
  have HC := hide (checkImage_any a n c xs w h hn hm)
  by_cases h0 : imgE xs = 0
  · have HX := hide (show imgTx xs = imgT xs by unfold imgTx; rw [if_pos h0])
    have HW := hide (written_any a n c xs w h hn (img_I64 h0) (by have := (imgE_ok h0).1; omega) hT)
    have hl := hide (wr_short (img_I64 h0) (by have := (imgE_ok h0).1; omega))
    rw [h0] at HC
    have hadd : ¬ 9223372036854775807 < 6 + (bs (wr xs)).size := by rw [bs_size]; have := hl.out; omega
    clear hn
    go_enter Tryz.func11, Tryz.ntmps11
    go_wp2_with (first | (go_at_call 19; refine (unhide HC).mono ?_; rintro e w' ⟨rfl, rfl⟩) | (go_at_call 38; refine (unhide HW).mono ?_; rintro e w1 ⟨rfl, hb1⟩))
    go_ret2
    refine ⟨?_, hb1⟩
    rw [HX.out, h0]
    exact ret_pair (app_two imgW (wr xs) rfl)
  · have hb : (imgE xs != 0) = true := by simpa using h0
    have HX := hide (show imgTx xs = [] by unfold imgTx; rw [if_neg h0])
    clear hn h0
    generalize imgE xs = q at *
    go_enter Tryz.func11, Tryz.ntmps11
    go_wp2_with (go_at_call 19; refine (unhide HC).mono ?_; rintro e w' ⟨rfl, rfl⟩)
    go_ret2
    rw [HX.out]
    exact ⟨rfl, Below.refl _ _⟩

theorem below_new {w1 W : World} (h : Below w1.heap.size w1 W) (o : Obj) : Below w1.heap.size w1 (W.alloc o) := h.alloc h.size o

end Go.Proofs.YtanpglfpopbfkabGreatDoor

namespace Go.Proofs.YtanpglfpopbfkabGreatDoor
open Go.RowKit

def nameE (ss : List ByteArray) (s : ByteArray) : Int := if bookE ss = 0 then (nameN ss s : Int) else 0
def inE (ss : List ByteArray) (xs : List Int) : Int := if imgE xs = 0 then bookE ss else imgE xs
def inN (ss : List ByteArray) (xs : List Int) : Int := if imgE xs = 0 then nameE ss (bs (imgT xs)) else 0

theorem ret_ints {a b c d : Int} (h : a = c) (h2 : b = d) : Ending.returned (.tuple #[.int .i64 a, .int .i64 b]) = .returned (.tuple #[.int .i64 c, .int .i64 d]) := by rw [h, h2]

set_option maxHeartbeats 800000 in
set_option maxRecDepth 100000 in
theorem name_any (a : Option Addr) (n c : Nat) (ss : List ByteArray) (s : ByteArray) (w : World) (h : IsStrs w a ss) (hn : ss.length = n) (hc : n ≤ c) (hm : n ≤ maxLen) (hz : ∀ s ∈ ss, s.size ≤ maxLen) :
    Calls Tryz.prog 71 #[bookv a n c, .string s] w fun e w' => e = .returned (.tuple #[.int .i64 (nameE ss s), .int .i64 (bookE ss)]) ∧ Below w.heap.size w w' := by
  have hw0 : Below w.heap.size w (w.alloc (.cells #[.slice a n c] 46)) := (Below.refl _ _).alloc (Nat.le_refl _) _
  have b0 := hide (heap_alloc_last w (.cells #[.slice a n c] 46))
  have i0 := h.below hw0
  have HC := hide (fun W (hW : IsStrs W a ss) => checkBook_any a n c ss W hW hn hc hz)
  have HI := hide (fun W (hW : IsStrs W a ss) => index_strs a n c ss s W hW hn hm)
  have hle := nameN_le ss s
  rw [hn] at hle
  unfold maxLen at hm
  have hwrap : IntKind.i64.wrap ((nameN ss s : Int) - 1 + 1) = (nameN ss s : Int) := by rw [IntKind.wrap_i64]; omega
  obtain ⟨q, hq⟩ : ∃ q : Int, q = (nameN ss s : Int) - 1 := ⟨_, rfl⟩
  rw [← hq] at hwrap HI
  unfold bookv at HC ⊢
  clear hn
  by_cases h0 : bookE ss = 0
  · have HX := hide (show nameE ss s = (nameN ss s : Int) by unfold nameE; rw [if_pos h0])
    have H0 := hide h0
    rw [h0] at HC
    rw [h0]
    clear h0 hq
    generalize (nameN ss s : Int) = r at *
    go_enter Tryz.func71, Tryz.ntmps71
    go_wp2_with fail
    generalize w.alloc (.cells #[.slice a n c] 46) = W at *
    refine (unhide HC _ i0).mono ?_
    rintro e w1 ⟨rfl, hb1⟩
    replace i0 := i0.below hb1
    replace hw0 := hw0.trans (hb1.mono hw0.size)
    have x0 := blk_cell (blk_below b0.out hb1) 0 _ rfl
    clear hb1
    go_wp2_with fail
    refine (unhide HI _ i0).mono ?_
    rintro e w2 ⟨rfl, rfl⟩
    go_wp2_with fail
    go_ret2
    exact ⟨ret_ints HX.out.symm rfl, hw0⟩
  · have hb : (bookE ss != 0) = true := by simpa using h0
    have HX := hide (show nameE ss s = 0 by unfold nameE; rw [if_neg h0])
    clear h0 hq
    generalize bookE ss = r at *
    go_enter Tryz.func71, Tryz.ntmps71
    go_wp2_with fail
    generalize w.alloc (.cells #[.slice a n c] 46) = W at *
    refine (unhide HC _ i0).mono ?_
    rintro e w1 ⟨rfl, hb1⟩
    replace hw0 := hw0.trans (hb1.mono hw0.size)
    go_wp2_with fail
    go_ret2
    exact ⟨ret_ints HX.out.symm rfl, hw0⟩

set_option maxHeartbeats 800000 in
set_option maxRecDepth 100000 in
theorem imageName_any (a : Option Addr) (n c : Nat) (ss : List ByteArray) (a2 : Option Addr) (n2 c2 : Nat) (xs : List Int) (w : World) (h : IsStrs w a ss) (hn : ss.length = n) (hc : n ≤ c) (hm : n ≤ maxLen) (hz : ∀ s ∈ ss, s.size ≤ maxLen)
    (h2 : IsInts w a2 xs) (hn2 : xs.length = n2) (hm2 : n2 ≤ maxLen) (hT : Tab w) :
    Calls Tryz.prog 37 #[bookv a n c, .slice a2 n2 c2] w fun e w' => e = .returned (.tuple #[.int .i64 (inN ss xs), .int .i64 (inE ss xs)]) ∧ Below w.heap.size w w' := by
  have hw0 : Below w.heap.size w (w.alloc (.cells #[.slice a n c] 46)) := (Below.refl _ _).alloc (Nat.le_refl _) _
  have b0 := hide (heap_alloc_last w (.cells #[.slice a n c] 46))
  have i0 := h.below hw0
  have j0 := h2.below hw0
  have t0 := hT.below hw0
  have HT := hide (fun W (hW : IsInts W a2 xs) (hTW : Tab W) => imageText_any a2 n2 c2 xs W hW hn2 hm2 hTW)
  have HNm := hide (fun W s (hW : IsStrs W a ss) => name_any a n c ss s W hW hn hc hm hz)
  unfold bookv at HNm ⊢
  clear hn hn2
  by_cases h0 : imgE xs = 0
  · have HX := hide (show inN ss xs = nameE ss (bs (imgT xs)) by unfold inN; rw [if_pos h0])
    have HY := hide (show inE ss xs = bookE ss by unfold inE; rw [if_pos h0])
    have HZ := hide (show imgTx xs = imgT xs by unfold imgTx; rw [if_pos h0])
    rw [HZ.out, h0] at HT
    clear h0
    generalize bs (imgT xs) = s at *
    replace HNm := hide (fun W => unhide HNm W s)
    generalize nameE ss s = r1 at *
    generalize bookE ss = r2 at *
    go_enter Tryz.func37, Tryz.ntmps37
    go_wp2_with fail
    generalize w.alloc (.cells #[.slice a n c] 46) = W at *
    refine (unhide HT _ j0 t0).mono ?_
    rintro e w1 ⟨rfl, hb1⟩
    replace i0 := i0.below hb1
    replace hw0 := hw0.trans (hb1.mono hw0.size)
    have x0 := blk_cell (blk_below b0.out hb1) 0 _ rfl
    clear hb1
    go_wp2_with fail
    refine (unhide HNm _ i0).mono ?_
    rintro e w2 ⟨rfl, hb2⟩
    go_wp2_with fail
    go_ret2
    exact ⟨ret_ints HX.out.symm HY.out.symm, hw0.trans (hb2.mono hw0.size)⟩
  · have hb : (imgE xs != 0) = true := by simpa using h0
    have HX := hide (show inN ss xs = 0 by unfold inN; rw [if_neg h0])
    have HY := hide (show inE ss xs = imgE xs by unfold inE; rw [if_neg h0])
    clear h0
    generalize imgE xs = r at *
    go_enter Tryz.func37, Tryz.ntmps37
    go_wp2_with fail
    generalize w.alloc (.cells #[.slice a n c] 46) = W at *
    refine (unhide HT _ j0 t0).mono ?_
    rintro e w1 ⟨rfl, hb1⟩
    replace hw0 := hw0.trans (hb1.mono hw0.size)
    go_wp2_with fail
    go_ret2
    exact ⟨ret_ints HX.out.symm HY.out.symm, hw0⟩

end Go.Proofs.YtanpglfpopbfkabGreatDoor
