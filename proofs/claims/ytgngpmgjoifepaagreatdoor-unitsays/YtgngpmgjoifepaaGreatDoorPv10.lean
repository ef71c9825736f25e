/- The contracts of meta.CheckRelease, CheckImage, CheckBook. The package variables of Go's library that stand as they were laid ('Tab', 'Vars'), and what strconv.Itoa, strings.Join do in their presence. The contract of meta.written. The contracts of meta.ImageText, RootText, ReleaseText, Name, ImageName. The contracts of meta.Name, ImageName. What package unit says, as plain functions: 'stOf', 'unE', 'msE', 'heE', 'doU', 'pieceS', 'prepS', 'comS', 'aboS', 'hearS'. No program in this text. What package trust says, as plain functions: 'sigE', 'trE', 'cntE', 'cntN', 'csE', 'turnE', 'allE', 'crE', 'meantB', 'takeE', 'takeT'. No program in this text. Signatures, roots and lists in memory: 'IsSigs', 'IsRoots', 'IsLists'; what is trusted, and an offer, as values ('trv', 'offv'). -/
import Derived.Test.YtgngpmgjoifepaaGreatDoorPv9
import Derived.Test.YtgngpmgjoifepaaGreatDoorMShelf
import Derived.Deep.RegionHeld3
import Derived.Deep.DeepCutAuto
import Derived.Test.YtgngpmgjoifepaaGreatDoorPv7
import Derived.Test.YtgngpmgjoifepaaGreatDoorPv8
namespace Go.Proofs.YtgngpmgjoifepaaGreatDoor
open Go.RowKit

theorem okL_word (xs : List Int) : okL xs = xs.all wordB := rfl

theorem imgE_1 {w : List Int} (h : inR w.length 1 40 = false) : imgE w = 2 := by simp [imgE, h]
theorem imgE_2 {w : List Int} (h : inR w.length 1 40 = true) (h2 : okL w = false) : imgE w = 3 := by rw [okL_word] at h2; simp [imgE, h, h2]
theorem imgE_3 {w : List Int} (h : inR w.length 1 40 = true) (h2 : okL w = true) : imgE w = 0 := by rw [okL_word] at h2; simp only [imgE, h, h2]; rfl

set_option maxHeartbeats 800000 in
set_option maxRecDepth 100000 in
theorem checkImage_any (a : Option Addr) (n c : Nat) (xs : List Int) (w : World) (h : IsInts w a xs) (hn : xs.length = n) (hm : n ≤ maxLen) :
    Calls Tryz.prog 53 #[.slice a n c] w fun e w' => e = .returned (.int .i64 (imgE xs)) ∧ w' = w := by
  have HN := hide hn
  have HA := hide (allWords_any a n c xs w h hn hm)
  clear hn
  cases h1 : inR (n : Int) 1 40
  {
  have HE := hide (imgE_1 (w := xs) (by rw [HN.out]; exact h1))
  go_enter Tryz.func53, Tryz.ntmps53
  go_wp2_with (go_at_call 107; refine (within_any _ _ _ _).mono ?_; rintro e w' ⟨rfl, rfl⟩)
  go_ret
  exact ⟨ret_int HE.out.symm, rfl⟩
  }
  {
  cases h2 : okL xs
  {
  have HE := hide (imgE_2 (by rw [HN.out]; exact h1) h2)
  rw [h2] at HA
  go_enter Tryz.func53, Tryz.ntmps53
  go_wp2_with (first | (go_at_call 107; refine (within_any _ _ _ _).mono ?_; rintro e w' ⟨rfl, rfl⟩) | (go_at_call 66; refine (unhide HA).mono ?_; rintro e w' ⟨rfl, rfl⟩))
  go_ret
  exact ⟨ret_int HE.out.symm, rfl⟩
  }
  {
  have HE := hide (imgE_3 (by rw [HN.out]; exact h1) h2)
  rw [h2] at HA
  go_enter Tryz.func53, Tryz.ntmps53
  go_wp2_with (first | (go_at_call 107; refine (within_any _ _ _ _).mono ?_; rintro e w' ⟨rfl, rfl⟩) | (go_at_call 66; refine (unhide HA).mono ?_; rintro e w' ⟨rfl, rfl⟩))
  go_ret
  exact ⟨ret_int HE.out.symm, rfl⟩

  }
  }
/-! ### Books -/

theorem booksE_long {ss : List ByteArray} {k : Nat} (hk : k < ss.length) (h : 2000 < ss[k].size) : booksE (ss.take k) (ss.drop k) = 2 := by
  rw [List.drop_eq_getElem_cons hk]
  simp only [booksE]
  rw [if_pos h]
theorem booksE_two {ss : List ByteArray} {k : Nat} (hk : k < ss.length) (h : ¬ 2000 < ss[k].size) (h2 : hasB (ss.take k) ss[k] = true) : booksE (ss.take k) (ss.drop k) = 6 := by
  rw [List.drop_eq_getElem_cons hk]
  simp only [booksE]
  rw [if_neg h, if_neg (by simpa [hasB] using h2)]
theorem booksE_next {ss : List ByteArray} {k : Nat} (hk : k < ss.length) (h : ¬ 2000 < ss[k].size) (h2 : hasB (ss.take k) ss[k] = false) : booksE (ss.take k) (ss.drop k) = booksE (ss.take (k + 1)) (ss.drop (k + 1)) := by
  rw [List.drop_eq_getElem_cons hk, List.take_succ_eq_append_getElem hk]
  simp only [booksE]
  rw [if_neg h, if_pos (by simpa [hasB] using h2)]

def bookv (a : Option Addr) (n c : Nat) : Value := .agg #[.slice a n c]

set_option maxHeartbeats 800000 in
set_option maxRecDepth 100000 in
theorem checkBook_any (a : Option Addr) (n c : Nat) (ss : List ByteArray) (w : World) (h : IsStrs w a ss) (hn : ss.length = n) (hc : n ≤ c) (hz : ∀ s ∈ ss, s.size ≤ maxLen) :
    Calls Tryz.prog 101 #[bookv a n c] w fun e w' => e = .returned (.int .i64 (bookE ss)) ∧ Below w.heap.size w w' := by
  have HN := hide hn
  unfold maxLen at hz
  unfold bookv
  have hw0 : Below w.heap.size w (w.alloc (.cells #[.slice a n c] 24)) := (Below.refl _ _).alloc (Nat.le_refl _) _
  by_cases h1 : 60 < n
  {
  have HE := hide (show bookE ss = 2 by unfold bookE; rw [if_pos (by omega)])
  clear hn
  go_enter Tryz.func101, Tryz.ntmps101
  go_wp2_with fail
  go_ret
  exact ⟨ret_int HE.out.symm, hw0⟩
  }
  {
  have HE := hide (show bookE ss = booksE [] ss by unfold bookE; rw [if_neg (by omega)])
  clear hn
  go_enter Tryz.func101, Tryz.ntmps101
  go_wp2_with fail
  go_loopw [12] (fun i wr => ∃ k : Nat, k ≤ n ∧ i = .int .i64 k ∧ wr = w.alloc (.cells #[.slice a n c] 24) ∧ Hid (booksE (ss.take k) (ss.drop k) = booksE [] ss)) (fun i _ => n - (intOf i).toNat)
  case atStart => exact ⟨0, Nat.zero_le _, rfl, rfl, by show _ = _; simp⟩
  case round =>
    obtain ⟨k, hk, rfl, rfl, ht⟩ := hrel
    by_cases hlt : k < n
    {
    have i1 := h.below hw0
    have i2 := i1.take k
    have hkx : k < ss.length := by rw [HN.out]; exact hlt
    rcases i1 with rfl | ⟨b0, o0, rfl, hc0⟩
    {
    have := HN.out
    simp at this
    omega
    }
    have e0 := h
    have e0 := hc0 k hkx
    rw [show ss.getD k ByteArray.empty = ss[k] by simp [hkx]] at e0
    have hzk := hz ss[k] (List.getElem_mem hkx)
    clear hc0
    by_cases h2 : 2000 < ss[k].size
    {
    have HV := hide (booksE_long hkx h2)
    generalize ss[k] = sk at *
    go_wp2_with fail
    go_ret
    exact ⟨ret_int (by rw [HE.out, ← ht.out, HV.out]), hw0⟩
    }
    {
    have HC := hide (contains_strs (some ⟨b0, o0, none⟩) k c (ss.take k) ss[k] _ i2 (by simp; omega) (by unfold maxLen; omega))
    cases h3 : hasB (ss.take k) ss[k]
    {
    have HV := hide (booksE_next hkx h2 h3)
    rw [h3] at HC
    generalize ss[k] = sk at *
    go_wp2_with (go_at_call 153; refine (unhide HC).mono ?_; rintro e w' ⟨rfl, rfl⟩)
    go_roundw
    case rel => exact ⟨k + 1, by omega, by go_num, trivial, by show _ = _; rw [← ht.out, HV.out]⟩
    case measure => simp [intOf]; omega
    }
    {
    have HV := hide (booksE_two hkx h2 h3)
    rw [h3] at HC
    generalize ss[k] = sk at *
    go_wp2_with (go_at_call 153; refine (unhide HC).mono ?_; rintro e w' ⟨rfl, rfl⟩)
    go_ret
    exact ⟨ret_int (by rw [HE.out, ← ht.out, HV.out]), hw0⟩
    }
    }
    }
    {
    go_wp2_with fail
    go_ret
    have hx := ht.out
    rw [List.drop_eq_nil_of_le (by rw [HN.out]; omega)] at hx
    exact ⟨ret_int (by rw [HE.out, ← hx]; rfl), hw0⟩

    }
  }
end Go.Proofs.YtgngpmgjoifepaaGreatDoor

namespace Go.Proofs.YtgngpmgjoifepaaGreatDoor
open Go.RowKit

def bs (l : List UInt8) : ByteArray := ⟨l.toArray⟩
theorem bs_data (l : List UInt8) : (bs l).data.toList = l := by simp [bs]
theorem bs_size (l : List UInt8) : (bs l).size = l.length := rfl
theorem var_below {w w' : World} {n : String} {cs : Array Value} (h : w.var? Tryz.prog n = some cs) (hb : Below w.heap.size w w') : w'.var? Tryz.prog n = some cs := by
  unfold World.var? at h ⊢
  cases hg : Tryz.prog.globalNamed n with
  | none => rw [hg] at h; cases h
  | some g =>
    rw [hg] at h
    simp only [Option.bind_some] at h ⊢
    have hlt : g < w.heap.size := by
      cases hx : w.heap[g]? with
      | none => rw [hx] at h; cases h
      | some o => exact (Array.getElem?_eq_some_iff.1 hx).1
    rw [hb.block g hlt]
    exact h

def Tab (w : World) : Prop := Lib.TabIs Tryz.prog w "internal/strconv.uint64pow10" .u64 Lib.pow10Tab

theorem Tab.below {w w' : World} (h : Tab w) (hb : Below w.heap.size w w') : Tab w' := var_below h hb
theorem Tab.alloc {w : World} (h : Tab w) (o : Obj) : Tab (w.alloc o) := h.below ((Below.refl _ _).alloc (Nat.le_refl _) _)

theorem grow_below (w : World) (os : Array Obj) : Below w.heap.size w (Sort.grow w os) :=
  ⟨rfl, rfl, rfl, by simp, fun k hk => Sort.heap_grow_old w os hk⟩

theorem itoa_any (n : Int) (hn : I64 n) (w : World) (hT : Tab w) :
    Calls Tryz.prog 180 #[.int .i64 n] w fun e w' => e = .returned (.string (bs (Lib.itoa n))) ∧ Below w.heap.size w w' := by
  refine (Tryz.strconv_Itoa n hn.1 hn.2 w hT).mono ?_
  rintro e w' ⟨rfl, k, os, rfl⟩
  exact ⟨rfl, (below_drewN (Below.refl _ _) k).trans (grow_below (w.drewN k) os : Below (w.drewN k).heap.size _ _)⟩

theorem join_any (a : Option Addr) (n c : Nat) (ss : List ByteArray) (sep : List UInt8) (w : World) (h : IsStrs w a ss) (hn : ss.length = n) (hc : n ≤ c) (hm : n ≤ 140737488355328)
    (hlen : (Lib.join (ss.map (·.data.toList)) sep).length ≤ 140737488355328) :
    Calls Tryz.prog 193 #[.slice a n c, .string (bs sep)] w fun e w' => e = .returned (.string (bs (Lib.join (ss.map (·.data.toList)) sep))) ∧ Below w.heap.size w w' := by
  subst hn
  rcases h with rfl | ⟨b, off, rfl, hcell⟩
  {
  refine (Tryz.strings_Join_none a c (bs sep) w).mono ?_
  rintro e w' ⟨rfl, rfl⟩
  exact ⟨rfl, Below.refl _ _⟩
  }
  {
  by_cases h0 : ss = []
  {
  subst h0
  refine (Tryz.strings_Join_none _ c (bs sep) w).mono ?_
  rintro e w' ⟨rfl, rfl⟩
  exact ⟨rfl, Below.refl _ _⟩
  }
  have hpos : 0 < ss.length := by cases ss with
    | nil => exact absurd rfl h0
    | cons x r => simp
  have := Tryz.strings_Join b off c ss (bs sep) w (fun j x hx => by
    obtain ⟨hj, hx⟩ := List.getElem?_eq_some_iff.1 hx
    have := hcell j hj
    rw [show ss.getD j ByteArray.empty = x by simp [hj, hx]] at this
    exact this) (cell_lt (hcell 0 hpos)) hm hc (by rw [bs_data]; exact hlen)
  rw [bs_data] at this
  exact this

  }
end Go.Proofs.YtgngpmgjoifepaaGreatDoor

namespace Go.Proofs.YtgngpmgjoifepaaGreatDoor
open Go.RowKit

def tl (xs : List Int) (n k : Nat) : List ByteArray := (xs.take k).map (fun x => bs (Lib.itoa x)) ++ List.replicate (n - k) ByteArray.empty

theorem tl_len (xs : List Int) (n k : Nat) (hn : xs.length = n) (hk : k ≤ n) : (tl xs n k).length = n := by simp [tl]; omega
theorem tl_set {xs : List Int} {n k : Nat} (hn : xs.length = n) (hk : k < xs.length) : (tl xs n k).set k (bs (Lib.itoa xs[k])) = tl xs n (k + 1) := by
  unfold tl
  have hl : ((xs.take k).map (fun x => bs (Lib.itoa x))).length = k := by simp; omega
  rw [List.set_append_right _ _ (by omega), hl, Nat.sub_self, List.take_succ_eq_append_getElem hk, List.map_append, show n - k = (n - (k + 1)) + 1 by omega, List.replicate_succ]
  simp
theorem tl_all {xs : List Int} {n : Nat} (hn : xs.length = n) : (tl xs n n).map (·.data.toList) = xs.map Lib.itoa := by
  unfold tl
  rw [List.take_of_length_le (by omega)]
  simp [bs]

theorem wr_short {xs : List Int} (hx : ∀ x ∈ xs, I64 x) (h : xs.length ≤ 64) : (wr xs).length ≤ 2000 := by
  have := wr_len 21 xs (fun x hxm => Lib.itoa_length_le x (hx x hxm).1 (hx x hxm).2)
  have : xs.length * 22 ≤ 64 * 22 := Nat.mul_le_mul_right _ h
  omega

set_option maxHeartbeats 800000 in
set_option maxRecDepth 100000 in
theorem written_any (a : Option Addr) (n c : Nat) (xs : List Int) (w : World) (h : IsInts w a xs) (hn : xs.length = n) (hx : ∀ x ∈ xs, I64 x) (hs : n ≤ 64) (hT : Tab w) :
    Calls Tryz.prog 210 #[.slice a n c] w fun e w' => e = .returned (.string (bs (wr xs))) ∧ Below w.heap.size w w' := by
  have HN := hide hn
  have hmk := make_strs n w (by omega)
  have HJ := hide (fun W (hW : IsStrs W (some ⟨w.heap.size, 0, none⟩) (tl xs n n)) => join_any (some ⟨w.heap.size, 0, none⟩) n n (tl xs n n) [32] W hW (tl_len xs n n hn (Nat.le_refl _)) (Nat.le_refl _) (by omega) (by
    rw [tl_all hn]
    have := wr_short hx (by omega)
    unfold wr at this
    omega))
  rw [tl_all hn] at HJ
  have h0 : Hid (OwnStrs (w.alloc (.cells (svals (List.replicate n ByteArray.empty)).toArray 9)) w.heap.size (tl xs n 0)) := by
    show OwnStrs _ _ _
    unfold OwnStrs tl
    simpa using heap_alloc_last w (.cells (svals (List.replicate n ByteArray.empty)).toArray 9)
  have hw0 : Below w.heap.size w (w.alloc (.cells (svals (List.replicate n ByteArray.empty)).toArray 9)) := (Below.refl _ _).alloc (Nat.le_refl _) _
  clear hn
  go_enter Tryz.func210, Tryz.ntmps210
  go_wp2_with fail
  go_loopw [11] (fun i wr => ∃ k : Nat, k ≤ n ∧ i = .int .i64 k ∧ Below w.heap.size w wr ∧ Hid (OwnStrs wr w.heap.size (tl xs n k))) (fun i _ => n - (intOf i).toNat)
  case atStart => exact ⟨0, Nat.zero_le _, rfl, hw0, h0⟩
  case round =>
    clear h0 hw0 hmk
    obtain ⟨k, hk, rfl, hw, ho⟩ := hrel
    by_cases hlt : k < n
    {
    have h1 := h.below hw
    rcases h1 with rfl | ⟨b0, o0, rfl, hc0⟩
    {
    have := HN.out
    simp at this
    omega
    }
    have hkx : k < xs.length := by rw [HN.out]; exact hlt
    have e0 := hc0 k hkx
    rw [show xs.getD k 0 = xs[k] by simp [hkx]] at e0
    have hi := hx xs[k] (List.getElem_mem hkx)
    have ltw := ho.out.lt
    have HS := hide (tl_set HN.out hkx)
    have hTr := hT.below hw
    have HL := hide (tl_len xs n k HN.out hk)
    clear hc0
    go_wp2_with fail
    refine (itoa_any _ hi _ hTr).mono ?_
    rintro e w1 ⟨rfl, hb1⟩
    have ho1 := hide (ho.out.below hb1 ltw)
    have hf1 := ho1.out.free k
    have hc1 := ho1.out.cell k (by rw [HL.out]; exact hlt)
    have hw1 := hw.trans (hb1.mono hw.size)
    go_wp2_with fail
    go_roundw
    case rel =>
      refine ⟨k + 1, by omega, by go_num, hw1.setCell (Nat.le_refl _) _, ?_⟩
      show OwnStrs _ _ _
      rw [← HS.out]
      exact ho1.out.set k _
    case measure => simp [intOf]; omega
    }
    {
    have hkn : k = n := by omega
    subst hkn
    go_wp2_with fail
    refine (unhide HJ _ ho.out.isStrs).mono ?_
    rintro e w1 ⟨rfl, hb1⟩
    go_wp2_with fail
    go_ret
    exact ⟨rfl, hw.trans (hb1.mono hw.size)⟩

    }
end Go.Proofs.YtgngpmgjoifepaaGreatDoor

namespace Go.Proofs.YtgngpmgjoifepaaGreatDoor
open Go.RowKit

def imgTx (xs : List Int) : List UInt8 := if imgE xs = 0 then imgT xs else []
theorem bs_append (a b : List UInt8) : bs a ++ bs b = bs (a ++ b) := by
  apply ByteArray.ext
  simp [bs]
theorem app_two {s : ByteArray} (a b : List UInt8) (h : s = bs a) : s ++ bs b = bs (a ++ b) := by rw [h, bs_append]
theorem ret_pair {s t : ByteArray} {q : Int} (h : s = t) : Ending.returned (.tuple #[.string s, .int .i64 q]) = .returned (.tuple #[.string t, .int .i64 q]) := by rw [h]

theorem img_I64 {xs : List Int} (h : imgE xs = 0) : ∀ x ∈ xs, I64 x := fun x hx => by
  have := (imgE_ok h).2 x hx
  exact ⟨by omega, by omega⟩

set_option maxHeartbeats 800000 in
set_option maxRecDepth 100000 in
theorem imageText_any (a : Option Addr) (n c : Nat) (xs : List Int) (w : World) (h : IsInts w a xs) (hn : xs.length = n) (hm : n ≤ maxLen) (hT : Tab w) :
    Calls Tryz.prog 213 #[.slice a n c] w fun e w' => e = .returned (.tuple #[.string (bs (imgTx xs)), .int .i64 (imgE xs)]) ∧ Below w.heap.size w w' := by
  have HC := hide (checkImage_any a n c xs w h hn hm)
  by_cases h0 : imgE xs = 0
  {
  have HX := hide (show imgTx xs = imgT xs by unfold imgTx; rw [if_pos h0])
  have HW := hide (written_any a n c xs w h hn (img_I64 h0) (by have := (imgE_ok h0).1; omega) hT)
  have hl := hide (wr_short (img_I64 h0) (by have := (imgE_ok h0).1; omega))
  rw [h0] at HC
  have hadd : ¬ 9223372036854775807 < 6 + (bs (wr xs)).size := by rw [bs_size]; have := hl.out; omega
  clear hn
  go_enter Tryz.func213, Tryz.ntmps213
  go_wp2_with (first | (go_at_call 53; refine (unhide HC).mono ?_; rintro e w' ⟨rfl, rfl⟩) | (go_at_call 210; refine (unhide HW).mono ?_; rintro e w1 ⟨rfl, hb1⟩))
  go_ret2
  refine ⟨?_, hb1⟩
  rw [HX.out, h0]
  exact ret_pair (app_two imgW (wr xs) rfl)
  }
  {
  have hb : (imgE xs != 0) = true := by simpa using h0
  have HX := hide (show imgTx xs = [] by unfold imgTx; rw [if_neg h0])
  clear hn h0
  generalize imgE xs = q at *
  go_enter Tryz.func213, Tryz.ntmps213
  go_wp2_with (go_at_call 53; refine (unhide HC).mono ?_; rintro e w' ⟨rfl, rfl⟩)
  go_ret2
  rw [HX.out]
  exact ⟨rfl, Below.refl _ _⟩

  }
theorem below_new {w1 W : World} (h : Below w1.heap.size w1 W) (o : Obj) : Below w1.heap.size w1 (W.alloc o) := h.alloc h.size o

end Go.Proofs.YtgngpmgjoifepaaGreatDoor

namespace Go.Proofs.YtgngpmgjoifepaaGreatDoor
open Go.RowKit

def nameE (ss : List ByteArray) (s : ByteArray) : Int := if bookE ss = 0 then (nameN ss s : Int) else 0
def inE (ss : List ByteArray) (xs : List Int) : Int := if imgE xs = 0 then bookE ss else imgE xs
def inN (ss : List ByteArray) (xs : List Int) : Int := if imgE xs = 0 then nameE ss (bs (imgT xs)) else 0

theorem ret_ints {a b c d : Int} (h : a = c) (h2 : b = d) : Ending.returned (.tuple #[.int .i64 a, .int .i64 b]) = .returned (.tuple #[.int .i64 c, .int .i64 d]) := by rw [h, h2]

set_option maxHeartbeats 800000 in
set_option maxRecDepth 100000 in
theorem name_any (a : Option Addr) (n c : Nat) (ss : List ByteArray) (s : ByteArray) (w : World) (h : IsStrs w a ss) (hn : ss.length = n) (hc : n ≤ c) (hm : n ≤ maxLen) (hz : ∀ s ∈ ss, s.size ≤ maxLen) :
    Calls Tryz.prog 185 #[bookv a n c, .string s] w fun e w' => e = .returned (.tuple #[.int .i64 (nameE ss s), .int .i64 (bookE ss)]) ∧ Below w.heap.size w w' := by
  have hw0 : Below w.heap.size w (w.alloc (.cells #[.slice a n c] 24)) := (Below.refl _ _).alloc (Nat.le_refl _) _
  have b0 := hide (heap_alloc_last w (.cells #[.slice a n c] 24))
  have i0 := h.below hw0
  have HC := hide (fun W (hW : IsStrs W a ss) => checkBook_any a n c ss W hW hn hc hz)
  have HI := hide (fun W (hW : IsStrs W a ss) => index_strs a n c ss s W hW hn hm)
  have hle := nameN_le ss s
  rw [hn] at hle
  unfold maxLen at hm
  have hwrap : IntKind.i64.wrap ((nameN ss s : Int) - 1 + 1) = (nameN ss s : Int) := by rw [IntKind.wrap_i64]; omega
  obtain ⟨q, hq⟩ : ∃ q : Int, q = (nameN ss s : Int) - 1 := ⟨_, rfl⟩
  rw [← hq] at hwrap HI
  unfold bookv at HC ⊢
  clear hn
  by_cases h0 : bookE ss = 0
  {
  have HX := hide (show nameE ss s = (nameN ss s : Int) by unfold nameE; rw [if_pos h0])
  have H0 := hide h0
  rw [h0] at HC
  rw [h0]
  clear h0 hq
  generalize (nameN ss s : Int) = r at *
  go_enter Tryz.func185, Tryz.ntmps185
  go_wp2_with fail
  generalize w.alloc (.cells #[.slice a n c] 24) = W at *
  refine (unhide HC _ i0).mono ?_
  rintro e w1 ⟨rfl, hb1⟩
  replace i0 := i0.below hb1
  replace hw0 := hw0.trans (hb1.mono hw0.size)
  have x0 := blk_cell (blk_below b0.out hb1) 0 _ rfl
  clear hb1
  go_wp2_with fail
  refine (unhide HI _ i0).mono ?_
  rintro e w2 ⟨rfl, rfl⟩
  go_wp2_with fail
  go_ret2
  exact ⟨ret_ints HX.out.symm rfl, hw0⟩
  }
  {
  have hb : (bookE ss != 0) = true := by simpa using h0
  have HX := hide (show nameE ss s = 0 by unfold nameE; rw [if_neg h0])
  clear h0 hq
  generalize bookE ss = r at *
  go_enter Tryz.func185, Tryz.ntmps185
  go_wp2_with fail
  generalize w.alloc (.cells #[.slice a n c] 24) = W at *
  refine (unhide HC _ i0).mono ?_
  rintro e w1 ⟨rfl, hb1⟩
  replace hw0 := hw0.trans (hb1.mono hw0.size)
  go_wp2_with fail
  go_ret2
  exact ⟨ret_ints HX.out.symm rfl, hw0⟩

  }
set_option maxHeartbeats 800000 in
set_option maxRecDepth 100000 in
theorem imageName_any (a : Option Addr) (n c : Nat) (ss : List ByteArray) (a2 : Option Addr) (n2 c2 : Nat) (xs : List Int) (w : World) (h : IsStrs w a ss) (hn : ss.length = n) (hc : n ≤ c) (hm : n ≤ maxLen) (hz : ∀ s ∈ ss, s.size ≤ maxLen)
    (h2 : IsInts w a2 xs) (hn2 : xs.length = n2) (hm2 : n2 ≤ maxLen) (hT : Tab w) :
    Calls Tryz.prog 187 #[bookv a n c, .slice a2 n2 c2] w fun e w' => e = .returned (.tuple #[.int .i64 (inN ss xs), .int .i64 (inE ss xs)]) ∧ Below w.heap.size w w' := by
  have hw0 : Below w.heap.size w (w.alloc (.cells #[.slice a n c] 24)) := (Below.refl _ _).alloc (Nat.le_refl _) _
  have b0 := hide (heap_alloc_last w (.cells #[.slice a n c] 24))
  have i0 := h.below hw0
  have j0 := h2.below hw0
  have t0 := hT.below hw0
  have HT := hide (fun W (hW : IsInts W a2 xs) (hTW : Tab W) => imageText_any a2 n2 c2 xs W hW hn2 hm2 hTW)
  have HNm := hide (fun W s (hW : IsStrs W a ss) => name_any a n c ss s W hW hn hc hm hz)
  unfold bookv at HNm ⊢
  clear hn hn2
  by_cases h0 : imgE xs = 0
  {
  have HX := hide (show inN ss xs = nameE ss (bs (imgT xs)) by unfold inN; rw [if_pos h0])
  have HY := hide (show inE ss xs = bookE ss by unfold inE; rw [if_pos h0])
  have HZ := hide (show imgTx xs = imgT xs by unfold imgTx; rw [if_pos h0])
  rw [HZ.out, h0] at HT
  clear h0
  generalize bs (imgT xs) = s at *
  replace HNm := hide (fun W => unhide HNm W s)
  generalize nameE ss s = r1 at *
  generalize bookE ss = r2 at *
  go_enter Tryz.func187, Tryz.ntmps187
  go_wp2_with fail
  generalize w.alloc (.cells #[.slice a n c] 24) = W at *
  refine (unhide HT _ j0 t0).mono ?_
  rintro e w1 ⟨rfl, hb1⟩
  replace i0 := i0.below hb1
  replace hw0 := hw0.trans (hb1.mono hw0.size)
  have x0 := blk_cell (blk_below b0.out hb1) 0 _ rfl
  clear hb1
  go_wp2_with fail
  refine (unhide HNm _ i0).mono ?_
  rintro e w2 ⟨rfl, hb2⟩
  go_wp2_with fail
  go_ret2
  exact ⟨ret_ints HX.out.symm HY.out.symm, hw0.trans (hb2.mono hw0.size)⟩
  }
  {
  have hb : (imgE xs != 0) = true := by simpa using h0
  have HX := hide (show inN ss xs = 0 by unfold inN; rw [if_neg h0])
  have HY := hide (show inE ss xs = imgE xs by unfold inE; rw [if_neg h0])
  clear h0
  generalize imgE xs = r at *
  go_enter Tryz.func187, Tryz.ntmps187
  go_wp2_with fail
  generalize w.alloc (.cells #[.slice a n c] 24) = W at *
  refine (unhide HT _ j0 t0).mono ?_
  rintro e w1 ⟨rfl, hb1⟩
  replace hw0 := hw0.trans (hb1.mono hw0.size)
  go_wp2_with fail
  go_ret2
  exact ⟨ret_ints HX.out.symm HY.out.symm, hw0⟩

  }
end Go.Proofs.YtgngpmgjoifepaaGreatDoor

namespace Go.Proofs.YtgngpmgjoifepaaGreatDoor
open Go.RowKit

structure Un where
  ws : List Int
  fu : Int
  up : Bool
  n : Int
  hv : Int
structure Ms where
  k : Int
  u : Int
  n : Int
  at' : Int
  im : Int
  ws : List Int
  y : Bool
structure Us where
  slot : Int
  by' : Int
  rdy : Int

def isR (r : List Int) (k : Int) (l : Nat) : Bool := decide (r.length = l) && decide (r.getD 0 0 = k)
def stNext (s : Us) (r : List Int) : Us :=
  if (isR r 1 3 && decide (r.getD 1 0 ≤ 1)) = true then ⟨r.getD 1 0, r.getD 2 0, 0⟩
  else if isR r 2 2 = true then ⟨s.slot, s.by', r.getD 1 0⟩
  else if isR r 3 2 = true then ⟨s.slot, s.by', 0⟩ else s
def us0 : Us := ⟨0, 0, 0⟩
def stR (rs : List (List Int)) : Us := rs.foldl stNext us0
def stOf (ws : List Int) : Us := stR (logR ws)

def unE (u : Un) : Int := if lchk u.ws u.fu ≠ 0 then lchk u.ws u.fu else if u.ws.length ≠ 192 then 4 else if (inB u.n 0 8 && inB u.hv 0 40) = true then 0 else 3
def msB (m : Ms) : Bool := inB m.k 1 7 && (inB m.u 0 3 && (inB m.n 1 8 && (inB m.at' 0 40 && (inB m.im 0 60 && (decide (m.ws.length ≤ 8) && okL m.ws)))))
def msE (m : Ms) : Int := if msB m = true then 0 else 3
def heE (ss : List ByteArray) (u : Un) (m : Ms) : Int := if bookE ss ≠ 0 then bookE ss else if unE u ≠ 0 then unE u else msE m

def doU (u : Un) (r : List Int × Int × Int) : Un × Bool :=
  if r.2.2 = 7 then (⟨r.1, r.2.1, false, 0, 0⟩, false) else if r.2.2 = 0 then (⟨r.1, r.2.1, u.up, u.n, u.hv⟩, true) else (u, false)

def keepU (s : Us) : List (List Int) := if s.rdy = 0 then [[1, s.slot, s.by']] else [[1, s.slot, s.by'], [2, s.rdy]]

abbrev Stu := Sum (Sum Unit Int) (Sum (Int × Int × List Int) (Sum (Int × Int × Int) (Us × List Int)))
abbrev Stu.fmt : Stu := Sum.inl (Sum.inl ())
abbrev Stu.clr (s : Int) : Stu := Sum.inl (Sum.inr s)
abbrev Stu.fil (s a : Int) (words : List Int) : Stu := Sum.inr (Sum.inl (s, a, words))
abbrev Stu.sea (s long name : Int) : Stu := Sum.inr (Sum.inr (Sum.inl (s, long, name)))
abbrev Stu.not (s : Us) (r : List Int) : Stu := Sum.inr (Sum.inr (Sum.inr (s, r)))
def doT : Stu → List Int → Int → List Int × Int × Int
  | .inl (.inl _), ws, f => fmtS ws f
  | .inl (.inr s), ws, f => clrS ws f s
  | .inr (.inl (s, a, words)), ws, f => fillS ws f s a words
  | .inr (.inr (.inl (s, l, n))), ws, f => sealS ws f s l n
  | .inr (.inr (.inr (s, r))), ws, f => appS ws f r (keepU s)
def doV (u : Un) (st : Stu) : Un × Bool := doU u (doT st u.ws u.fu)
def turnU : List Stu → Un → Un × Bool
  | [], u => (u, true)
  | st :: r, u => if (doV u st).2 = true then turnU r (doV u st).1 else ((doV u st).1, false)

def oth (s : Us) : Int := 1 - s.slot
def mind (u : Un) (n hv : Int) : Un := ⟨u.ws, u.fu, u.up, n, hv⟩

def voteM (m : Ms) (y : Bool) : Ms := ⟨3, m.u, m.n, 0, 0, [], y⟩
def doneM (m : Ms) : Ms := ⟨6, m.u, m.n, 0, 0, [], false⟩

def pieceA (u : Un) (s : Us) (m : Ms) : Un × Bool :=
  if m.at' = 0 ∧ (u.n ≠ m.n ∨ u.hv = 0) then
    (if (doV u (.clr (oth s))).2 = true then (mind (doV u (.clr (oth s))).1 m.n 0, true) else ((doV u (.clr (oth s))).1, false))
  else (u, true)
def pieceB (u : Un) (s : Us) (m : Ms) : Un :=
  if u.n = m.n ∧ u.hv = m.at' ∧ (m.ws.length : Int) ≤ 40 - m.at' then
    (if (doV u (.fil (oth s) m.at' m.ws)).2 = true then mind (doV u (.fil (oth s) m.at' m.ws)).1 (doV u (.fil (oth s) m.at' m.ws)).1.n ((doV u (.fil (oth s) m.at' m.ws)).1.hv + m.ws.length)
    else (doV u (.fil (oth s) m.at' m.ws)).1)
  else u
def pieceS (u : Un) (s : Us) (m : Ms) : Un :=
  if s.rdy ≠ 0 ∨ m.n ≤ s.by' then u else if (pieceA u s m).2 = true then pieceB (pieceA u s m).1 s m else (pieceA u s m).1

def wordsU (u : Un) (s : Us) (m : Ms) : List Int := (bodyS u.ws u.fu (oth s) m.at').1
def meantU (ss : List ByteArray) (u : Un) (s : Us) (m : Ms) : Bool :=
  decide ((bodyS u.ws u.fu (oth s) m.at').2 = 0) && (decide (inE ss (wordsU u s m) = 0) && (decide (inN ss (wordsU u s m) ≠ 0) && decide (inN ss (wordsU u s m) = m.im)))
def wholeU (u : Un) (s : Us) (m : Ms) (words : List Int) : Bool :=
  decide ((imgS u.ws u.fu (oth s)).2.2 = 0) && (decide ((imgS u.ws u.fu (oth s)).2.1 = m.im) && eqL (imgS u.ws u.fu (oth s)).1 words)
def prepC (u : Un) (s : Us) (m : Ms) : Un × List Ms :=
  if (doV u (.not s [2, m.n])).2 = true then ((doV u (.not s [2, m.n])).1, [voteM m true]) else ((doV u (.not s [2, m.n])).1, [])
def prepB (u : Un) (s : Us) (m : Ms) (words : List Int) : Un × List Ms :=
  if (doV u (.sea (oth s) m.at' m.im)).2 = true then
    (if wholeU (mind (doV u (.sea (oth s) m.at' m.im)).1 0 0) s m words = true then prepC (mind (doV u (.sea (oth s) m.at' m.im)).1 0 0) s m
    else (mind (doV u (.sea (oth s) m.at' m.im)).1 0 0, [voteM m false]))
  else ((doV u (.sea (oth s) m.at' m.im)).1, [])
def prepS (ss : List ByteArray) (u : Un) (s : Us) (m : Ms) : Un × List Ms :=
  if m.n ≤ s.by' then (u, [doneM m]) else if s.rdy ≠ 0 then (u, [voteM m (decide (s.rdy = m.n))])
  else if u.n = m.n ∧ u.hv = m.at' ∧ meantU ss u s m = true then prepB u s m (wordsU u s m) else (u, [voteM m false])

def comS (u : Un) (s : Us) (m : Ms) : Un × List Ms :=
  if s.by' = m.n then (u, [doneM m]) else if s.rdy ≠ m.n then (u, [])
  else if (doV u (.not s [1, oth s, m.n])).2 = true then ((doV u (.not s [1, oth s, m.n])).1, [doneM m]) else ((doV u (.not s [1, oth s, m.n])).1, [])

def aboB (u : Un) (m : Ms) : Un × List Ms := (if u.n = m.n then mind u 0 0 else u, [doneM m])
def aboS (u : Un) (s : Us) (m : Ms) : Un × List Ms :=
  if m.n ≤ s.by' then (u, []) else if s.rdy = m.n then
    (if (doV u (.not s [3, m.n])).2 = true then aboB (doV u (.not s [3, m.n])).1 m else ((doV u (.not s [3, m.n])).1, []))
  else aboB u m

def hearK (ss : List ByteArray) (u : Un) (m : Ms) : Un × List Ms :=
  if m.k = 1 then (pieceS u (stOf u.ws) m, []) else if m.k = 2 then prepS ss u (stOf u.ws) m
  else if m.k = 4 then comS u (stOf u.ws) m else if m.k = 5 then aboS u (stOf u.ws) m else (u, [])
def hearS (ss : List ByteArray) (u : Un) (m : Ms) : Un × List Ms := if u.up = true then hearK ss u m else (u, [])

def sameM (x y : Ms) : Bool := decide (x.k = y.k) && (decide (x.u = y.u) && (decide (x.n = y.n) && (decide (x.at' = y.at') && (decide (x.im = y.im) && (x.y == y.y && eqL x.ws y.ws)))))
def sameU (x y : Un) : Bool := (decide (x.fu = y.fu) && eqL x.ws y.ws) && ((x.up == y.up) && (decide (x.n = y.n) && decide (x.hv = y.hv)))

end Go.Proofs.YtgngpmgjoifepaaGreatDoor

namespace Go.Proofs.YtgngpmgjoifepaaGreatDoor
open Go.RowKit

abbrev S2 := Int × Int
structure Rt where
  v : Int
  ks : List Int
  t : Int
structure Of where
  roots : List Rt
  rsigs : List (List Int)
  v : Int
  u : Int
  ts : List T3
  sigs : List Int
  imgs : List (List Int)

def Rt.e (r : Rt) : Int := rootE r.v r.ks r.t
def Rt.tx (r : Rt) : List UInt8 := rootT r.v r.ks r.t

def has {α : Type} [DecidableEq α] (xs : List α) (x : α) : Bool := decide (x ∈ xs)
end Go.Proofs.YtgngpmgjoifepaaGreatDoor

namespace Go.Proofs.YtgngpmgjoifepaaGreatDoor
open Go.RowKit

structure BI (w : World) (a : Option Addr) (n : Nat) (xs : List Int) : Prop where
  at_ : IsInts w a xs
  len : xs.length = n
  max : n ≤ maxLen
structure BB (w : World) (a : Option Addr) (n c : Nat) (ss : List ByteArray) : Prop where
  at_ : IsStrs w a ss
  len : ss.length = n
  cap : n ≤ c
  max : n ≤ maxLen
  short : ∀ s ∈ ss, s.size ≤ maxLen
theorem BI.below {w w' : World} {a : Option Addr} {n : Nat} {xs : List Int} (h : BI w a n xs) (hb : Below w.heap.size w w') : BI w' a n xs := ⟨h.at_.below hb, h.len, h.max⟩
theorem BB.below {w w' : World} {a : Option Addr} {n c : Nat} {ss : List ByteArray} (h : BB w a n c ss) (hb : Below w.heap.size w w') : BB w' a n c ss := ⟨h.at_.below hb, h.len, h.cap, h.max, h.short⟩
end Go.Proofs.YtgngpmgjoifepaaGreatDoor
