/- The package variables of Go's library that stand as they were laid ('Tab', 'Vars'), and what strconv.Itoa, strings.Join do in their presence. The contract of meta.written. -/
import Derived.Test.YtanpglfpopbfkabGreatDoorPm5
import Derived.Test.YtanpglfpopbfkabGreatDoorMShelf
namespace Go.Proofs.YtanpglfpopbfkabGreatDoor
open Go.RowKit

/-- A text of these bytes. -/
def bs (l : List UInt8) : ByteArray := ⟨l.toArray⟩
theorem bs_data (l : List UInt8) : (bs l).data.toList = l := by simp [bs]
theorem bs_of (s : ByteArray) : bs s.data.toList = s := by simp [bs]
theorem bs_size (l : List UInt8) : (bs l).size = l.length := rfl
theorem size_data (s : ByteArray) : s.data.toList.length = s.size := Array.length_toList

theorem var_below {w w' : World} {n : String} {cs : Array Value} (h : w.var? Tryz.prog n = some cs) (hb : Below w.heap.size w w') : w'.var? Tryz.prog n = some cs := by
  unfold World.var? at h ⊢
  cases hg : Tryz.prog.globalNamed n with
  | none => rw [hg] at h; cases h
  | some g =>
    rw [hg] at h
    simp only [Option.bind_some] at h ⊢
    have hlt : g < w.heap.size := by
      cases hx : w.heap[g]? with
      | none => rw [hx] at h; cases h
      | some o => exact (Array.getElem?_eq_some_iff.1 hx).1
    rw [hb.block g hlt]
    exact h

/-- The table that strconv.Itoa reads stands as it was laid. -/
def Tab (w : World) : Prop := Lib.TabIs Tryz.prog w "internal/strconv.uint64pow10" .u64 Lib.pow10Tab

theorem Tab.below {w w' : World} (h : Tab w) (hb : Below w.heap.size w w') : Tab w' := var_below h hb
theorem Tab.alloc {w : World} (h : Tab w) (o : Obj) : Tab (w.alloc o) := h.below ((Below.refl _ _).alloc (Nat.le_refl _) _)

theorem grow_below (w : World) (os : Array Obj) : Below w.heap.size w (Sort.grow w os) :=
  ⟨rfl, rfl, rfl, by simp, fun k hk => Sort.heap_grow_old w os hk⟩

theorem itoa_any (n : Int) (hn : I64 n) (w : World) (hT : Tab w) :
    Calls Tryz.prog 72 #[.int .i64 n] w fun e w' => e = .returned (.string (bs (Lib.itoa n))) ∧ Below w.heap.size w w' := by
  refine (Tryz.strconv_Itoa n hn.1 hn.2 w hT).mono ?_
  rintro e w' ⟨rfl, k, os, rfl⟩
  exact ⟨rfl, (below_drewN (Below.refl _ _) k).trans (grow_below (w.drewN k) os : Below (w.drewN k).heap.size _ _)⟩

/-- strings.Join of a row of texts. -/
theorem join_any (a : Option Addr) (n c : Nat) (ss : List ByteArray) (sep : List UInt8) (w : World) (h : IsStrs w a ss) (hn : ss.length = n) (hc : n ≤ c) (hm : n ≤ 140737488355328)
    (hlen : (Lib.join (ss.map (·.data.toList)) sep).length ≤ 140737488355328) :
    Calls Tryz.prog 40 #[.slice a n c, .string (bs sep)] w fun e w' => e = .returned (.string (bs (Lib.join (ss.map (·.data.toList)) sep))) ∧ Below w.heap.size w w' := by
  subst hn
  rcases h with rfl | ⟨b, off, rfl, hcell⟩
  · refine (Tryz.strings_Join_none a c (bs sep) w).mono ?_
    rintro e w' ⟨rfl, rfl⟩
    exact ⟨rfl, Below.refl _ _⟩
  · by_cases h0 : ss = []
    · subst h0
      refine (Tryz.strings_Join_none _ c (bs sep) w).mono ?_
      rintro e w' ⟨rfl, rfl⟩
      exact ⟨rfl, Below.refl _ _⟩
    have hpos : 0 < ss.length := by cases ss with
      | nil => exact absurd rfl h0
      | cons x r => simp
    have := Tryz.strings_Join b off c ss (bs sep) w (fun j x hx => by
      obtain ⟨hj, hx⟩ := List.getElem?_eq_some_iff.1 hx
      have := hcell j hj
      rw [show ss.getD j ByteArray.empty = x by simp [hj, hx]] at this
      exact this) (cell_lt (hcell 0 hpos)) hm hc (by rw [bs_data]; exact hlen)
    rw [bs_data] at this
    exact this

end Go.Proofs.YtanpglfpopbfkabGreatDoor

namespace Go.Proofs.YtanpglfpopbfkabGreatDoor
open Go.RowKit

/-- The texts of the numbers so far, then empty ones. -/
def tl (xs : List Int) (n k : Nat) : List ByteArray := (xs.take k).map (fun x => bs (Lib.itoa x)) ++ List.replicate (n - k) ByteArray.empty

theorem tl_len (xs : List Int) (n k : Nat) (hn : xs.length = n) (hk : k ≤ n) : (tl xs n k).length = n := by simp [tl]; omega
theorem tl_set {xs : List Int} {n k : Nat} (hn : xs.length = n) (hk : k < xs.length) : (tl xs n k).set k (bs (Lib.itoa xs[k])) = tl xs n (k + 1) := by
  unfold tl
  have hl : ((xs.take k).map (fun x => bs (Lib.itoa x))).length = k := by simp; omega
  rw [List.set_append_right _ _ (by omega), hl, Nat.sub_self, List.take_succ_eq_append_getElem hk, List.map_append, show n - k = (n - (k + 1)) + 1 by omega, List.replicate_succ]
  simp
theorem tl_all {xs : List Int} {n : Nat} (hn : xs.length = n) : (tl xs n n).map (·.data.toList) = xs.map Lib.itoa := by
  unfold tl
  rw [List.take_of_length_le (by omega)]
  simp [bs]

theorem wr_short {xs : List Int} (hx : ∀ x ∈ xs, I64 x) (h : xs.length ≤ 64) : (wr xs).length ≤ 2000 := by
  have := wr_len 21 xs (fun x hxm => Lib.itoa_length_le x (hx x hxm).1 (hx x hxm).2)
  have : xs.length * 22 ≤ 64 * 22 := Nat.mul_le_mul_right _ h
  omega

set_option maxHeartbeats 800000 in
set_option maxRecDepth 100000 in
theorem written_any (a : Option Addr) (n c : Nat) (xs : List Int) (w : World) (h : IsInts w a xs) (hn : xs.length = n) (hx : ∀ x ∈ xs, I64 x) (hs : n ≤ 64) (hT : Tab w) :
    Calls Tryz.prog 38 #[.slice a n c] w fun e w' => e = .returned (.string (bs (wr xs))) ∧ Below w.heap.size w w' := by
  have HN := hide hn
  have hmk := make_strs n w (by omega)
  have HJ := hide (fun W (hW : IsStrs W (some ⟨w.heap.size, 0, none⟩) (tl xs n n)) => join_any (some ⟨w.heap.size, 0, none⟩) n n (tl xs n n) [32] W hW (tl_len xs n n hn (Nat.le_refl _)) (Nat.le_refl _) (by omega) (by
    rw [tl_all hn]
    have := wr_short hx (by omega)
    unfold wr at this
    omega))
  rw [tl_all hn] at HJ
  have h0 : Hid (OwnStrs (w.alloc (.cells (svals (List.replicate n ByteArray.empty)).toArray 9)) w.heap.size (tl xs n 0)) := by
    show OwnStrs _ _ _
    unfold OwnStrs tl
    simpa using heap_alloc_last w (.cells (svals (List.replicate n ByteArray.empty)).toArray 9)
  have hw0 : Below w.heap.size w (w.alloc (.cells (svals (List.replicate n ByteArray.empty)).toArray 9)) := (Below.refl _ _).alloc (Nat.le_refl _) _
  clear hn
  go_enter Tryz.func38, Tryz.ntmps38
  go_wp2_with fail
  go_loopw [11] (fun i wr => ∃ k : Nat, k ≤ n ∧ i = .int .i64 k ∧ Below w.heap.size w wr ∧ Hid (OwnStrs wr w.heap.size (tl xs n k))) (fun i _ => n - (intOf i).toNat)
  case atStart => exact ⟨0, Nat.zero_le _, rfl, hw0, h0⟩
  case round =>
    clear h0 hw0 hmk
    obtain ⟨k, hk, rfl, hw, ho⟩ := hrel
    by_cases hlt : k < n
    · have h1 := h.below hw
      rcases h1 with rfl | ⟨b0, o0, rfl, hc0⟩
      · have := HN.out
        simp at this
        omega
      have hkx : k < xs.length := by rw [HN.out]; exact hlt
      have e0 := hc0 k hkx
      rw [show xs.getD k 0 = xs[k] by simp [hkx]] at e0
      have hi := hx xs[k] (List.getElem_mem hkx)
      have ltw := ho.out.lt
      have HS := hide (tl_set HN.out hkx)
      have hTr := hT.below hw
      have HL := hide (tl_len xs n k HN.out hk)
      clear hc0
      go_wp2_with fail
      refine (itoa_any _ hi _ hTr).mono ?_
      rintro e w1 ⟨rfl, hb1⟩
      have ho1 := hide (ho.out.below hb1 ltw)
      have hf1 := ho1.out.free k
      have hc1 := ho1.out.cell k (by rw [HL.out]; exact hlt)
      have hw1 := hw.trans (hb1.mono hw.size)
      go_wp2_with fail
      go_roundw
      case rel =>
        refine ⟨k + 1, by omega, by go_num, hw1.setCell (Nat.le_refl _) _, ?_⟩
        show OwnStrs _ _ _
        rw [← HS.out]
        exact ho1.out.set k _
      case measure => simp [intOf]; omega
    · have hkn : k = n := by omega
      subst hkn
      go_wp2_with fail
      refine (unhide HJ _ ho.out.isStrs).mono ?_
      rintro e w1 ⟨rfl, hb1⟩
      go_wp2_with fail
      go_ret
      exact ⟨rfl, hw.trans (hb1.mono hw.size)⟩

end Go.Proofs.YtanpglfpopbfkabGreatDoor
