/- The contracts of Go's library that are used here, laid at this seat's program by the guide's own programs (lay-shelf, lay-plain). The package variables of Go's library that stand as they were laid ('Tab', 'Vars'), and what strconv.Itoa, strings.Join do in their presence. The contract of meta.written. The contracts of meta.ImageText, RootText, ReleaseText, Name, ImageName. -/
import Derived.Shelf.Strings.OnBuilder
import Derived.Shelf.LaysM
import Derived.Shelf.Strconv.Itoa3
import Derived.Ground.Names2Prog
import Derived.Ground.SlgnProg
import Derived.Test.YtppmdfndcjgibacGreatDoorRows
import Derived.Test.YtppmdfndcjgibacGreatDoorPk12
import Derived.Test.YtppmdfndcjgibacGreatDoorPk13
import Derived.Deep.RegionHeld3
import Derived.Deep.DeepCutAuto
namespace Go.Proofs.YtppmdfndcjgibacGreatDoor
open Go.Shelf Go.Proofs
def Tryz.lays156_ren : Go.Shelf.Ren := ⟨fun | 156 => 136 | 165 => 180 | 166 => 181 | 169 => 182 | 240 => 204 | 241 => 205 | 276 => 215 | 277 => 216 | n => n, fun | 31 => 22 | 9 => 9 | 3 => 3 | 4 => 4 | 0 => 0 | 20 => 20 | 72 => 242 | 76 => 246 | 70 => 239 | 37 => 240 | 75 => 245 | 127 => 262 | 164 => 271 | 5 => 5 | 80 => 248 | n => n, fun | n => n⟩
theorem Tryz.lays156 : Go.Proofs.Lays.n156 Tryz.prog Tryz.lays156_ren := {
  mixed := by kernel_rfl
  f156 := Tryz.func136.trans (congrArg some (by kernel_rfl))
  f165 := Tryz.func180.trans (congrArg some (by kernel_rfl))
  f166 := Tryz.func181.trans (congrArg some (by kernel_rfl))
  f169 := Tryz.func182.trans (congrArg some (by kernel_rfl))
  f240 := Tryz.func204.trans (congrArg some (by kernel_rfl))
  f241 := Tryz.func205.trans (congrArg some (by kernel_rfl))
  f276 := Tryz.func215.trans (congrArg some (by kernel_rfl))
  f277 := Tryz.func216.trans (congrArg some (by kernel_rfl))
  t0 := Tryz.underlying0
  a0 := Tryz.isAgg0
  z0 := Tryz.sizeOf0
  v0 := Tryz.zeroValue0
  t3 := Tryz.underlying3
  a3 := Tryz.isAgg3
  z3 := Tryz.sizeOf3
  v3 := Tryz.zeroValue3
  t4 := Tryz.underlying4
  a4 := Tryz.isAgg4
  z4 := Tryz.sizeOf4
  v4 := Tryz.zeroValue4
  t9 := Tryz.underlying9
  a9 := Tryz.isAgg9
  z9 := Tryz.sizeOf9
  v9 := Tryz.zeroValue9
  t20 := Tryz.underlying20
  a20 := Tryz.isAgg20
  z20 := Tryz.sizeOf20
  v20 := Tryz.zeroValue20
  t31 := Tryz.underlying22
  a31 := Tryz.isAgg22
  z31 := Tryz.sizeOf22
  v31 := Tryz.zeroValue22
  t37 := Tryz.underlying240
  a37 := Tryz.isAgg240
  z37 := Tryz.sizeOf240
  v37 := Tryz.zeroValue240
  t70 := Tryz.underlying239
  a70 := Tryz.isAgg239
  z70 := Tryz.sizeOf239
  v70 := Tryz.zeroValue239
  t72 := Tryz.underlying242
  a72 := Tryz.isAgg242
  z72 := Tryz.sizeOf242
  v72 := Tryz.zeroValue242
  t75 := Tryz.underlying245
  a75 := Tryz.isAgg245
  z75 := Tryz.sizeOf245
  v75 := Tryz.zeroValue245
  t76 := Tryz.underlying246
  a76 := Tryz.isAgg246
  z76 := Tryz.sizeOf246
  v76 := Tryz.zeroValue246
  t127 := Tryz.underlying262
  a127 := Tryz.isAgg262
  z127 := Tryz.sizeOf262
  v127 := Tryz.zeroValue262
  t164 := Tryz.underlying271
  a164 := Tryz.isAgg271
  z164 := Tryz.sizeOf271
  v164 := Tryz.zeroValue271 }
theorem Tryz.Builder_Extra_156 : Builder.Extra Tryz.prog Tryz.lays156_ren := {
  sizeBuilder := by kernel_rfl
  liesBuilder := by kernel_rfl
  t5 := Tryz.underlying5
  a5 := Tryz.isAgg5
  z5 := Tryz.sizeOf5
  v5 := Tryz.zeroValue5
  infoByte := by kernel_rfl
  cellsByte := by kernel_rfl
  sizeByte := by kernel_rfl
  neB5 := by decide }
open Go.RowKit in
theorem Tryz.strings_Join_none (a : Option Addr) (c : Nat) (sep : ByteArray) (w : World) :
    Calls Tryz.prog 136 #[.slice a 0 c, .string sep] w fun e w' => e = .returned (.string ⟨#[]⟩) ∧ w' = w := Any.strings_Join_none Tryz.lays156 Tryz.Builder_Extra_156 a c sep w
open Go.RowKit in
theorem Tryz.strings_Join (bk o c : Nat) (xs : List ByteArray) (sep : ByteArray) (w : World) (hcells : ∀ (j : Nat) x, xs[j]? = some x → w.cell? ⟨bk, o + j, none⟩ = some (.string x)) (hbk : bk < w.heap.size) (hN : xs.length ≤ 140737488355328) (hcap : xs.length ≤ c) (hlen : (Lib.join (xs.map (·.data.toList)) sep.data.toList).length ≤ 140737488355328) :
    Calls Tryz.prog 136 #[.slice (some ⟨bk, o, none⟩) xs.length c, .string sep] w fun e w' => e = .returned (.string ⟨(Lib.join (xs.map (·.data.toList)) sep.data.toList).toArray⟩) ∧ Below w.heap.size w w' := Any.strings_Join Tryz.lays156 Tryz.Builder_Extra_156 bk o c xs sep w hcells hbk hN hcap hlen
def Tryz.laysM171_ren : Go.Shelf.Ren := ⟨fun | 171 => 135 | 243 => 179 | 246 => 203 | 283 => 211 | 284 => 212 | 285 => 213 | 286 => 214 | 129 => 220 | 317 => 219 | 318 => 221 | 319 => 222 | 320 => 223 | 337 => 224 | 338 => 225 | n => n, fun | 3 => 3 | 9 => 9 | 2 => 2 | 4 => 4 | 171 => 266 | 0 => 0 | 53 => 223 | 37 => 240 | 5 => 5 | 173 => 269 | 212 => 279 | 51 => 220 | 20 => 20 | 213 => 280 | 46 => 181 | 232 => 283 | 233 => 284 | n => n, fun | 17 => 0 | 18 => 2 | 19 => 3 | n => n⟩
theorem Tryz.laysM171 : Go.Proofs.LaysM.n171 Tryz.prog Tryz.laysM171_ren := {
  mixed := by kernel_rfl
  f129 := Tryz.func220.trans (congrArg some (by kernel_rfl))
  f171 := Tryz.func135.trans (congrArg some (by kernel_rfl))
  f243 := Tryz.func179.trans (congrArg some (by kernel_rfl))
  f246 := Tryz.func203.trans (congrArg some (by kernel_rfl))
  f283 := Tryz.func211.trans (congrArg some (by kernel_rfl))
  f284 := Tryz.func212.trans (congrArg some (by kernel_rfl))
  f285 := Tryz.func213.trans (congrArg some (by kernel_rfl))
  f286 := Tryz.func214.trans (congrArg some (by kernel_rfl))
  f317 := Tryz.func219.trans (congrArg some (by kernel_rfl))
  f318 := Tryz.func221.trans (congrArg some (by kernel_rfl))
  f319 := Tryz.func222.trans (congrArg some (by kernel_rfl))
  f320 := Tryz.func223.trans (congrArg some (by kernel_rfl))
  f337 := Tryz.func224.trans (congrArg some (by kernel_rfl))
  f338 := Tryz.func225.trans (congrArg some (by kernel_rfl))
  t0 := Tryz.underlying0
  a0 := Tryz.isAgg0
  z0 := Tryz.sizeOf0
  v0 := Tryz.zeroValue0
  t2 := Tryz.underlying2
  a2 := Tryz.isAgg2
  z2 := Tryz.sizeOf2
  v2 := Tryz.zeroValue2
  t3 := Tryz.underlying3
  a3 := Tryz.isAgg3
  z3 := Tryz.sizeOf3
  v3 := Tryz.zeroValue3
  t4 := Tryz.underlying4
  a4 := Tryz.isAgg4
  z4 := Tryz.sizeOf4
  v4 := Tryz.zeroValue4
  t5 := Tryz.underlying5
  a5 := Tryz.isAgg5
  z5 := Tryz.sizeOf5
  v5 := Tryz.zeroValue5
  t9 := Tryz.underlying9
  a9 := Tryz.isAgg9
  z9 := Tryz.sizeOf9
  v9 := Tryz.zeroValue9
  t20 := Tryz.underlying20
  a20 := Tryz.isAgg20
  z20 := Tryz.sizeOf20
  v20 := Tryz.zeroValue20
  t37 := Tryz.underlying240
  a37 := Tryz.isAgg240
  z37 := Tryz.sizeOf240
  v37 := Tryz.zeroValue240
  t46 := Tryz.underlying181
  a46 := Tryz.isAgg181
  z46 := Tryz.sizeOf181
  v46 := Tryz.zeroValue181
  t51 := Tryz.underlying220
  a51 := Tryz.isAgg220
  z51 := Tryz.sizeOf220
  v51 := Tryz.zeroValue220
  t53 := Tryz.underlying223
  a53 := Tryz.isAgg223
  z53 := Tryz.sizeOf223
  v53 := Tryz.zeroValue223
  t171 := Tryz.underlying266
  a171 := Tryz.isAgg266
  z171 := Tryz.sizeOf266
  v171 := Tryz.zeroValue266
  t173 := Tryz.underlying269
  a173 := Tryz.isAgg269
  z173 := Tryz.sizeOf269
  v173 := Tryz.zeroValue269
  t212 := Tryz.underlying279
  a212 := Tryz.isAgg279
  z212 := Tryz.sizeOf279
  v212 := Tryz.zeroValue279
  t213 := Tryz.underlying280
  a213 := Tryz.isAgg280
  z213 := Tryz.sizeOf280
  t232 := Tryz.underlying283
  a232 := Tryz.isAgg283
  z232 := Tryz.sizeOf283
  v232 := Tryz.zeroValue283
  t233 := Tryz.underlying284
  a233 := Tryz.isAgg284
  z233 := Tryz.sizeOf284
  v233 := Tryz.zeroValue284
  g17 := by kernel_rfl
  g18 := by kernel_rfl
  g19 := by kernel_rfl
  i0 := by kernel_rfl
  i2 := by kernel_rfl
  i3 := by kernel_rfl
  i4 := by kernel_rfl
  i5 := by kernel_rfl
  i9 := by kernel_rfl
  i20 := by kernel_rfl
  i37 := by kernel_rfl
  i46 := by kernel_rfl
  i51 := by kernel_rfl
  i53 := by kernel_rfl
  i171 := by kernel_rfl
  i173 := by kernel_rfl
  i212 := by kernel_rfl
  i232 := by kernel_rfl
  i233 := by kernel_rfl
  m17 := by kernel_rfl
  m18 := by kernel_rfl
  m19 := by kernel_rfl }
open Go.RowKit Go.Sort Go.Lib in
theorem Tryz.strconv_Itoa (n : Int) (h0 : -9223372036854775808 ≤ n) (h1 : n ≤ 9223372036854775807) (w : World) (htab : Lib.TabIs Tryz.prog w "internal/strconv.uint64pow10" .u64 Lib.pow10Tab) :
    Calls Tryz.prog 135 #[.int .i64 n] w fun e w' => e = .returned (.string ⟨(Lib.itoa n).toArray⟩) ∧ ∃ k os, w' = grow (w.drewN k) os := Any.strconv_Itoa Tryz.laysM171 n h0 h1 w htab
end Go.Proofs.YtppmdfndcjgibacGreatDoor

namespace Go.Proofs.YtppmdfndcjgibacGreatDoor
open Go.RowKit

/-- A text of these bytes. -/
def bs (l : List UInt8) : ByteArray := ⟨l.toArray⟩
theorem bs_data (l : List UInt8) : (bs l).data.toList = l := by simp [bs]
theorem bs_of (s : ByteArray) : bs s.data.toList = s := by simp [bs]
theorem bs_size (l : List UInt8) : (bs l).size = l.length := rfl
theorem bs_inj {a b : List UInt8} (h : bs a = bs b) : a = b := by rw [← bs_data a, h, bs_data]
theorem size_data (s : ByteArray) : s.data.toList.length = s.size := Array.length_toList

theorem var_below {w w' : World} {n : String} {cs : Array Value} (h : w.var? Tryz.prog n = some cs) (hb : Below w.heap.size w w') : w'.var? Tryz.prog n = some cs := by
  unfold World.var? at h ⊢
  cases hg : Tryz.prog.globalNamed n with
  | none => rw [hg] at h; cases h
  | some g =>
    rw [hg] at h
    simp only [Option.bind_some] at h ⊢
    have hlt : g < w.heap.size := by
      cases hx : w.heap[g]? with
      | none => rw [hx] at h; cases h
      | some o => exact (Array.getElem?_eq_some_iff.1 hx).1
    rw [hb.block g hlt]
    exact h

/-- The table that strconv.Itoa reads stands as it was laid. -/
def Tab (w : World) : Prop := Lib.TabIs Tryz.prog w "internal/strconv.uint64pow10" .u64 Lib.pow10Tab

theorem Tab.below {w w' : World} (h : Tab w) (hb : Below w.heap.size w w') : Tab w' := var_below h hb
theorem Tab.alloc {w : World} (h : Tab w) (o : Obj) : Tab (w.alloc o) := h.below ((Below.refl _ _).alloc (Nat.le_refl _) _)

theorem grow_below (w : World) (os : Array Obj) : Below w.heap.size w (Sort.grow w os) :=
  ⟨rfl, rfl, rfl, by simp, fun k hk => Sort.heap_grow_old w os hk⟩

theorem itoa_any (n : Int) (hn : I64 n) (w : World) (hT : Tab w) :
    Calls Tryz.prog 135 #[.int .i64 n] w fun e w' => e = .returned (.string (bs (Lib.itoa n))) ∧ Below w.heap.size w w' := by
  refine (Tryz.strconv_Itoa n hn.1 hn.2 w hT).mono ?_
  rintro e w' ⟨rfl, k, os, rfl⟩
  exact ⟨rfl, (below_drewN (Below.refl _ _) k).trans (grow_below (w.drewN k) os : Below (w.drewN k).heap.size _ _)⟩

/-- strings.Join of a row of texts. -/
theorem join_any (a : Option Addr) (n c : Nat) (ss : List ByteArray) (sep : List UInt8) (w : World) (h : IsStrs w a ss) (hn : ss.length = n) (hc : n ≤ c) (hm : n ≤ 140737488355328)
    (hlen : (Lib.join (ss.map (·.data.toList)) sep).length ≤ 140737488355328) :
    Calls Tryz.prog 136 #[.slice a n c, .string (bs sep)] w fun e w' => e = .returned (.string (bs (Lib.join (ss.map (·.data.toList)) sep))) ∧ Below w.heap.size w w' := by
  subst hn
  rcases h with rfl | ⟨b, off, rfl, hcell⟩
  · refine (Tryz.strings_Join_none a c (bs sep) w).mono ?_
    rintro e w' ⟨rfl, rfl⟩
    exact ⟨rfl, Below.refl _ _⟩
  · by_cases h0 : ss = []
    · subst h0
      refine (Tryz.strings_Join_none _ c (bs sep) w).mono ?_
      rintro e w' ⟨rfl, rfl⟩
      exact ⟨rfl, Below.refl _ _⟩
    have hpos : 0 < ss.length := by cases ss with
      | nil => exact absurd rfl h0
      | cons x r => simp
    have := Tryz.strings_Join b off c ss (bs sep) w (fun j x hx => by
      obtain ⟨hj, hx⟩ := List.getElem?_eq_some_iff.1 hx
      have := hcell j hj
      rw [show ss.getD j ByteArray.empty = x by simp [hj, hx]] at this
      exact this) (cell_lt (hcell 0 hpos)) hm hc (by rw [bs_data]; exact hlen)
    rw [bs_data] at this
    exact this

end Go.Proofs.YtppmdfndcjgibacGreatDoor

namespace Go.Proofs.YtppmdfndcjgibacGreatDoor
open Go.RowKit

/-- The texts of the numbers so far, then empty ones. -/
def tl (xs : List Int) (n k : Nat) : List ByteArray := (xs.take k).map (fun x => bs (Lib.itoa x)) ++ List.replicate (n - k) ByteArray.empty

theorem tl_len (xs : List Int) (n k : Nat) (hn : xs.length = n) (hk : k ≤ n) : (tl xs n k).length = n := by simp [tl]; omega
theorem tl_set {xs : List Int} {n k : Nat} (hn : xs.length = n) (hk : k < xs.length) : (tl xs n k).set k (bs (Lib.itoa xs[k])) = tl xs n (k + 1) := by
  unfold tl
  have hl : ((xs.take k).map (fun x => bs (Lib.itoa x))).length = k := by simp; omega
  rw [List.set_append_right _ _ (by omega), hl, Nat.sub_self, List.take_succ_eq_append_getElem hk, List.map_append, show n - k = (n - (k + 1)) + 1 by omega, List.replicate_succ]
  simp
theorem tl_all {xs : List Int} {n : Nat} (hn : xs.length = n) : (tl xs n n).map (·.data.toList) = xs.map Lib.itoa := by
  unfold tl
  rw [List.take_of_length_le (by omega)]
  simp [bs]

theorem wr_short {xs : List Int} (hx : ∀ x ∈ xs, I64 x) (h : xs.length ≤ 64) : (wr xs).length ≤ 2000 := by
  have := wr_len 21 xs (fun x hxm => Lib.itoa_length_le x (hx x hxm).1 (hx x hxm).2)
  have : xs.length * 22 ≤ 64 * 22 := Nat.mul_le_mul_right _ h
  omega

set_option maxHeartbeats 800000 in
set_option maxRecDepth 100000 in
theorem written_any (a : Option Addr) (n c : Nat) (xs : List Int) (w : World) (h : IsInts w a xs) (hn : xs.length = n) (hx : ∀ x ∈ xs, I64 x) (hs : n ≤ 64) (hT : Tab w) :
    Calls Tryz.prog 86 #[.slice a n c] w fun e w' => e = .returned (.string (bs (wr xs))) ∧ Below w.heap.size w w' := by
  have HN := hide hn
  have hmk := make_strs n w (by omega)
  have HJ := hide (fun W (hW : IsStrs W (some ⟨w.heap.size, 0, none⟩) (tl xs n n)) => join_any (some ⟨w.heap.size, 0, none⟩) n n (tl xs n n) [32] W hW (tl_len xs n n hn (Nat.le_refl _)) (Nat.le_refl _) (by omega) (by
    rw [tl_all hn]
    have := wr_short hx (by omega)
    unfold wr at this
    omega))
  rw [tl_all hn] at HJ
  have h0 : Hid (OwnStrs (w.alloc (.cells (svals (List.replicate n ByteArray.empty)).toArray 9)) w.heap.size (tl xs n 0)) := by
    show OwnStrs _ _ _
    unfold OwnStrs tl
    simpa using heap_alloc_last w (.cells (svals (List.replicate n ByteArray.empty)).toArray 9)
  have hw0 : Below w.heap.size w (w.alloc (.cells (svals (List.replicate n ByteArray.empty)).toArray 9)) := (Below.refl _ _).alloc (Nat.le_refl _) _
  clear hn
  go_enter Tryz.func86, Tryz.ntmps86
  go_wp2_with fail
  go_loopw [11] (fun i wr => ∃ k : Nat, k ≤ n ∧ i = .int .i64 k ∧ Below w.heap.size w wr ∧ Hid (OwnStrs wr w.heap.size (tl xs n k))) (fun i _ => n - (intOf i).toNat)
  case atStart => exact ⟨0, Nat.zero_le _, rfl, hw0, h0⟩
  case round =>
    clear h0 hw0 hmk
    obtain ⟨k, hk, rfl, hw, ho⟩ := hrel
    by_cases hlt : k < n
    · have h1 := h.below hw
      rcases h1 with rfl | ⟨b0, o0, rfl, hc0⟩
      · have := HN.out
        simp at this
        omega
      have hkx : k < xs.length := by rw [HN.out]; exact hlt
      have e0 := hc0 k hkx
      rw [show xs.getD k 0 = xs[k] by simp [hkx]] at e0
      have hi := hx xs[k] (List.getElem_mem hkx)
      have ltw := ho.out.lt
      have HS := hide (tl_set HN.out hkx)
      have hTr := hT.below hw
      have HL := hide (tl_len xs n k HN.out hk)
      clear hc0
      go_wp2_with fail
      refine (itoa_any _ hi _ hTr).mono ?_
      rintro e w1 ⟨rfl, hb1⟩
      have ho1 := hide (ho.out.below hb1 ltw)
      have hf1 := ho1.out.free k
      have hc1 := ho1.out.cell k (by rw [HL.out]; exact hlt)
      have hw1 := hw.trans (hb1.mono hw.size)
      go_wp2_with fail
      go_roundw
      case rel =>
        refine ⟨k + 1, by omega, by go_num, hw1.setCell (Nat.le_refl _) _, ?_⟩
        show OwnStrs _ _ _
        rw [← HS.out]
        exact ho1.out.set k _
      case measure => simp [intOf]; omega
    · have hkn : k = n := by omega
      subst hkn
      go_wp2_with fail
      refine (unhide HJ _ ho.out.isStrs).mono ?_
      rintro e w1 ⟨rfl, hb1⟩
      go_wp2_with fail
      go_ret
      exact ⟨rfl, hw.trans (hb1.mono hw.size)⟩

end Go.Proofs.YtppmdfndcjgibacGreatDoor

namespace Go.Proofs.YtppmdfndcjgibacGreatDoor
open Go.RowKit

def imgTx (xs : List Int) : List UInt8 := if imgE xs = 0 then imgT xs else []
def rootTx (v : Int) (ks : List Int) (t : Int) : List UInt8 := if rootE v ks t = 0 then rootT v ks t else []
def relTx (v u : Int) (ts : List T3) : List UInt8 := if relE v u ts = 0 then relT v u ts else []

theorem bs_append (a b : List UInt8) : bs a ++ bs b = bs (a ++ b) := by
  apply ByteArray.ext
  simp [bs]
theorem app_two {s : ByteArray} (a b : List UInt8) (h : s = bs a) : s ++ bs b = bs (a ++ b) := by rw [h, bs_append]
theorem app_four {s t : ByteArray} (a b c d : List UInt8) (h : s = bs a) (h2 : t = bs c) : s ++ bs b ++ t ++ bs d = bs (a ++ b ++ c ++ d) := by rw [h, h2, bs_append, bs_append, bs_append]
theorem ret_pair {s t : ByteArray} {q : Int} (h : s = t) : Ending.returned (.tuple #[.string s, .int .i64 q]) = .returned (.tuple #[.string t, .int .i64 q]) := by rw [h]

theorem img_I64 {xs : List Int} (h : imgE xs = 0) : ∀ x ∈ xs, I64 x := fun x hx => by
  have := (imgE_ok h).2 x hx
  exact ⟨by omega, by omega⟩

set_option maxHeartbeats 800000 in
set_option maxRecDepth 100000 in
theorem imageText_any (a : Option Addr) (n c : Nat) (xs : List Int) (w : World) (h : IsInts w a xs) (hn : xs.length = n) (hm : n ≤ maxLen) (hT : Tab w) :
    Calls Tryz.prog 40 #[.slice a n c] w fun e w' => e = .returned (.tuple #[.string (bs (imgTx xs)), .int .i64 (imgE xs)]) ∧ Below w.heap.size w w' := by
  have HC := hide (checkImage_any a n c xs w h hn hm)
  by_cases h0 : imgE xs = 0
  · have HX := hide (show imgTx xs = imgT xs by unfold imgTx; rw [if_pos h0])
    have HW := hide (written_any a n c xs w h hn (img_I64 h0) (by have := (imgE_ok h0).1; omega) hT)
    have hl := hide (wr_short (img_I64 h0) (by have := (imgE_ok h0).1; omega))
    rw [h0] at HC
    have hadd : ¬ 9223372036854775807 < 6 + (bs (wr xs)).size := by rw [bs_size]; have := hl.out; omega
    clear hn
    go_enter Tryz.func40, Tryz.ntmps40
    go_wp2_with (first | (go_at_call 85; refine (unhide HC).mono ?_; rintro e w' ⟨rfl, rfl⟩) | (go_at_call 86; refine (unhide HW).mono ?_; rintro e w1 ⟨rfl, hb1⟩))
    go_ret2
    refine ⟨?_, hb1⟩
    rw [HX.out, h0]
    exact ret_pair (app_two imgW (wr xs) rfl)
  · have hb : (imgE xs != 0) = true := by simpa using h0
    have HX := hide (show imgTx xs = [] by unfold imgTx; rw [if_neg h0])
    clear hn h0
    generalize imgE xs = q at *
    go_enter Tryz.func40, Tryz.ntmps40
    go_wp2_with (go_at_call 85; refine (unhide HC).mono ?_; rintro e w' ⟨rfl, rfl⟩)
    go_ret2
    rw [HX.out]
    exact ⟨rfl, Below.refl _ _⟩

theorem root_I64 {v : Int} {ks : List Int} {t : Int} (h : rootE v ks t = 0) : (∀ x ∈ ks, I64 x) ∧ ∀ x ∈ [v, t], I64 x := by
  obtain ⟨h1, h2, h3, h4, h5⟩ := rootE_ok h
  refine ⟨fun x hx => ?_, fun x hx => ?_⟩
  · have := keys_in h5 x hx
    exact ⟨by omega, by omega⟩
  · simp at hx
    rcases hx with rfl | rfl
    · exact ⟨by omega, by omega⟩
    · exact ⟨by omega, by omega⟩

theorem isInts_drew {w : World} {a : Option Addr} {xs : List Int} (h : IsInts w a xs) : IsInts w.drew a xs := h

theorem below_new {w1 W : World} (h : Below w1.heap.size w1 W) (o : Obj) : Below w1.heap.size w1 (W.alloc o) := h.alloc h.size o

theorem keep3 {w1 W : World} {b : Nat} {v0 v1 v2 : Value} {t : TypeId} (hb : Below w1.heap.size w1 W) (h : w1.heap[b]? = some (.cells #[v0, v1, v2] t (0, 0))) :
    W.cell? ⟨b, 0, none⟩ = some v0 ∧ W.cell? ⟨b, 1, none⟩ = some v1 ∧ W.cell? ⟨b, 2, none⟩ = some v2 ∧ Below w1.heap.size w1 W := by
  have h' := blk_below h hb
  exact ⟨blk_cell h' 0 _ rfl, blk_cell h' 1 _ rfl, blk_cell h' 2 _ rfl, hb⟩

set_option maxHeartbeats 1600000 in
set_option maxRecDepth 100000 in
theorem rootText_any (v : Int) (a : Option Addr) (n c : Nat) (t : Int) (xs : List Int) (w : World) (h : IsInts w a xs) (hn : xs.length = n) (hm : n ≤ maxLen) (hT : Tab w) :
    Calls Tryz.prog 186 #[rv v a n c t] w fun e w' => e = .returned (.tuple #[.string (bs (rootTx v xs t)), .int .i64 (rootE v xs t)]) ∧ Below w.heap.size w w' := by
  have hw0 : Below w.heap.size w (w.alloc (.cells #[.int .i64 v, .slice a n c, .int .i64 t] 52)) := (Below.refl _ _).alloc (Nat.le_refl _) _
  have b0 := hide (heap_alloc_last w (.cells #[.int .i64 v, .slice a n c, .int .i64 t] 52))
  have i0 := h.below hw0
  have t0 := hT.below hw0
  have HC := hide (fun W (hW : IsInts W a xs) => checkRoot_any v a n c t xs W hW hn hm)
  unfold rv at HC ⊢
  by_cases h0 : rootE v xs t = 0
  · have HX := hide (show rootTx v xs t = rootT v xs t by unfold rootTx; rw [if_pos h0])
    obtain ⟨k1, k2⟩ := root_I64 h0
    have hl : n ≤ 6 := by have := (rootE_ok h0).2.1; omega
    have HW2 := hide (fun W (hW : IsInts W a xs) (hTW : Tab W) => written_any a n c xs W hW hn k1 (by omega) hTW)
    have HW1 := hide (fun W B (hW : IsInts W (some ⟨B, 0, none⟩) [v, t]) (hTW : Tab W) => written_any (some ⟨B, 0, none⟩) 2 2 [v, t] W hW rfl k2 (by omega) hTW)
    have l1 := hide (wr_short k2 (by simp))
    have l2 := hide (wr_short k1 (by omega))
    rw [h0] at HC
    rw [h0]
    have hadd1 : ¬ 9223372036854775807 < 5 + (bs (wr [v, t])).size := by rw [bs_size]; have := l1.out; omega
    have hadd2 : ¬ 9223372036854775807 < 5 + (bs (wr [v, t])).size + 4 := by rw [bs_size]; have := l1.out; omega
    have hadd3 : ¬ 9223372036854775807 < 5 + (bs (wr [v, t])).size + 4 + (bs (wr xs)).size := by rw [bs_size, bs_size]; have := l1.out; have := l2.out; omega
    clear hn k1 k2
    go_enter Tryz.func186, Tryz.ntmps186
    go_wp2_with fail
    generalize w.alloc (.cells #[.int .i64 v, .slice a n c, .int .i64 t] 52) = W at *
    refine (unhide HC _ i0).mono ?_
    rintro e w1 ⟨rfl, hb1⟩
    replace b0 := hide (blk_below b0.out hb1)
    replace i0 := i0.below hb1
    replace t0 := t0.below hb1
    replace hw0 := hw0.trans (hb1.mono hw0.size)
    clear hb1
    replace HW2 := hide (fun W (hW : Below w1.heap.size w1 W) => (HW2.out W (i0.below hW) (t0.below hW)).mono fun _ _ h => (⟨h.1, h.2, hW.trans (h.2.mono hW.size)⟩ : _ ∧ Below W.heap.size W _ ∧ Below w1.heap.size w1 _))
    replace HW1 := hide (fun W B (hW : Below w1.heap.size w1 W) (hi : IsInts W (some ⟨B, 0, none⟩) [v, t]) => (HW1.out W B hi (t0.below hW)).mono fun _ _ h => (⟨h.1, h.2, hW.trans (h.2.mono hW.size)⟩ : _ ∧ Below W.heap.size W _ ∧ Below w1.heap.size w1 _))
    go_upto_region 4 with fail
    have hb5 : True := trivial
    go_region_held3 (fun w' => w'.cell? ⟨w.heap.size, 0, none⟩ = some (.int .i64 v) ∧ w'.cell? ⟨w.heap.size, 1, none⟩ = some (.slice a n c) ∧ w'.cell? ⟨w.heap.size, 2, none⟩ = some (.int .i64 t) ∧ Below w1.heap.size w1 w')
      (first | (refine keep3 ?_ b0.out; (repeat (first | assumption | exact Below.refl _ _ | refine Below.drew ?_ | refine below_new ?_ _)); done))
      ((first
        | (go_at_call_of 86 c; refine (unhide HW2 _ ?_).mono ?_; (focus ((repeat (first | assumption | exact Below.refl _ _ | refine Below.drew ?_ | refine below_new ?_ _)); done)); rintro e w5 ⟨rfl, hb5, hk5⟩)
        | (go_at_call 86; refine (unhide HW1 _ _ ?_ ?_).mono ?_; (focus ((repeat (first | assumption | exact Below.refl _ _ | refine Below.drew ?_ | refine below_new ?_ _)); done)); (focus ((repeat (first | exact isInts_at _ _ [v, t] _ _ rfl rfl | refine isInts_drew ?_ | refine IsInts.below ?_ hb5)); done)); rintro e w6 ⟨rfl, hb6, hk6⟩)))
    go_wp2_with fail
    go_ret2
    refine ⟨?_, hw0.trans (Below.mono (by first | assumption | exact And.right (And.right (And.right (by assumption)))) hw0.size)⟩
    rw [HX.out]
    exact ret_pair (app_four rootW (wr [v, t]) ofW (wr xs) rfl rfl)
  · have hb : (rootE v xs t != 0) = true := by simpa using h0
    have HX := hide (show rootTx v xs t = [] by unfold rootTx; rw [if_neg h0])
    clear hn h0
    generalize rootE v xs t = q at *
    go_enter Tryz.func186, Tryz.ntmps186
    go_wp2_with fail
    generalize w.alloc (.cells #[.int .i64 v, .slice a n c, .int .i64 t] 52) = W at *
    refine (unhide HC _ i0).mono ?_
    rintro e w1 ⟨rfl, hb1⟩
    replace hw0 := hw0.trans (hb1.mono hw0.size)
    go_wp2_with fail
    go_ret2
    rw [HX.out]
    exact ⟨rfl, hw0⟩

end Go.Proofs.YtppmdfndcjgibacGreatDoor
