/- What a slice of ints in memory holds ('IsInts'). Rows of ints of one's own ('OwnInts'), what they are behind a store; the contract of flash.AllWords. A row of one's own lies in a block of one's own. That slices.Equal says whether two slices of ints hold the same. The contract of flash.twinWords. The contracts of flash.twin, flash.fits, flash.Check. The contract of flash.twin. -/
import Derived.Test.YthmekfcgdfckaaaGreatDoorRows
import Derived.WalkKit
import Derived.WalkSpells
import Derived.WalkLawsBesides
import Derived.Deep.QuietTactic
import Derived.BigQuiet
import Derived.Deep.RegionHeld
import Derived.Laws.CopyOwn
import Derived.Deep.RegionWith
import Derived.Deep.WholeRow
import Derived.Deep.RegionHeld3
set_option maxRecDepth 1000000
set_option maxHeartbeats 0
namespace Go.Proofs.YthmekfcgdfckaaaGreatDoor
variable {xs ys:List Int} {k n g B:Nat} {a:Option Addr} {w W:World} {v:Value} {o:Obj} {cs:Array Value} {t:TypeId} {fuel:Int}
section
open Go.RowKit
theorem hide {p:Prop} (h:p):Hid p:=h
theorem zae {p:Prop} (h:Hid p):p:=h
def zag (w:World) (a:Option Addr) (xs:List Int):Prop:=
  xs= []∨∃b off,a=some ⟨b,off,none⟩∧∀i,i<xs.length→w.cell? ⟨b,off+i,none⟩=some (.int .i64 (xs.getD i 0))
def eqL (xs ys:List Int):Bool:=decide (xs=ys)
theorem eqL_len (h:xs.length≠ys.length):eqL xs ys=false:=by
  unfold eqL;simp;intro e;exact h (by rw [e])
theorem eqL_take (hl:xs.length=ys.length) (hk:xs.length≤k) (h:xs.take k=ys.take k):eqL xs ys=true:=by
  unfold eqL;rw [List.take_of_length_le hk,List.take_of_length_le (by omega)] at h
  simp [h]
theorem eqL_ne (hx:k<xs.length) (hy:k<ys.length) (h: ¬xs[k]=ys[k]):eqL xs ys=false:=by
  unfold eqL;simp;intro e;subst e;exact h rfl
theorem take_step (hx:k<xs.length) (hy:k<ys.length) (h:xs.take k=ys.take k) (he:xs[k]=ys[k]):xs.take (k+1)=ys.take (k+1):=by
  rw [List.take_succ_eq_append_getElem hx,List.take_succ_eq_append_getElem hy,h,he]
theorem zan {a b:Bool} (h:a=b):Ending.returned (.bool a)=.returned (.bool b):=by rw [h]
theorem zah {p:Addr} (h:w.cell? p=some v):p.block<w.heap.size:=by
  unfold World.cell? at h
  split at h<;>simp_all
  rename_i hb
  obtain ⟨hlt,_⟩:=Array.getElem?_eq_some_iff.1 hb;exact hlt
theorem zag.below {w' :World} (h:zag w a xs) (hb:Below w.heap.size w w'):zag w' a xs:=by
  rcases h with h| ⟨b,off,rfl,hc⟩
  { exact .inl h }
  {
  exact .inr ⟨b,off,rfl,fun i hi=>by rw [hb.cell (zah (hc i hi))];exact hc i hi⟩
  }
theorem zag.alloc (h:zag w a xs) (o:Obj):zag (w.alloc o) a xs:=
  h.below ((Below.refl _ _).alloc (Nat.le_refl _) _)
theorem zag.drewN (h:zag w a xs) (n:Nat):zag (w.drewN n) a xs:=
  h.below (below_drewN (Below.refl _ _) n)
theorem zd2 (w:World) (b:Nat) (xs:List Int) (vs:Array Value) (t:TypeId) (hb:b=w.heap.size) (hv:vs= (xs.map (Value.int .i64)).toArray):zag (w.alloc (.cells vs t)) (some ⟨b,0,none⟩) xs:=by
  subst hb hv;refine .inr ⟨_,_,rfl,fun i hi=> ?_⟩
  simp [hi]
section
variable {P:Program} {ops:Array Oper} {Q:Exit→Act→World→Prop} {md:Region.Mode} {S:World→Prop}
theorem sq: (∀(a:Act) (i:Nat) (v:Value),a.put (some i) v= { a with tmps:=a.tmps.setIfInBounds i v })∧(∀(a:Act) (v:Value),a.put none v=a)∧(∀(l:List Value) (i:Nat) (a:Value),l.toArray.setIfInBounds i a= (l.set i a).toArray)∧(∀(x:Value) (xs:List Value) (a:Value),(x::xs).set 0 a=a::xs)∧(∀(x:Value) (xs:List Value) (n:Nat) (a:Value),(x::xs).set (n+1) a=x::xs.set n a)∧
    (∀(l:List Bool) (i:Nat) (a:Bool),l.toArray.setIfInBounds i a= (l.set i a).toArray)∧(∀(x:Bool) (xs:List Bool) (a:Bool),(x::xs).set 0 a=a::xs)∧(∀(x:Bool) (xs:List Bool) (n:Nat) (a:Bool),(x::xs).set (n+1) a=x::xs.set n a):=
  ⟨fun _ _ _=>rfl,fun _ _=>rfl,fun _ _ _=>List.setIfInBounds_toArray ..,fun _ _ _=>rfl,fun _ _ _ _=>rfl,fun _ _ _=>List.setIfInBounds_toArray ..,fun _ _ _=>rfl,fun _ _ _ _=>rfl⟩
theorem Htake {i:Nat} {oi:Oper} {l:Array Bool} {a:Act} (hi:ops[i]?=some oi) (hs: (Region.noSelect ops&&(Region.free md ops l i&&(Region.ready md ops l).contains i))=true)
    (hQ: ∀c a w,Q (.panic c) (a.put oi.dst v) w→Q (.panic c) a w) (hy:YieldsIf P ops S oi v a) (hS:S w) (h:wpAnyH P md ops Q S n (l.setIfInBounds i true) (a.put oi.dst v) w):wpAnyH P md ops Q S (n+1) l a w:=by
  simp only [Bool.and_eq_true] at hs;exact wpAnyH_take hi hs.1 hs.2.1 hs.2.2 hQ hy hS h
theorem Htk {i:Nat} {oi:Oper} {l:Array Bool} {a:Act} (h:wpAnyH P md ops Q S n (l.setIfInBounds i true) (a.put oi.dst v) w) (hi:ops[i]?=some oi:=by(simp only [List.getElem?_toArray,List.getElem?_cons_zero,List.getElem?_cons_succ];rfl)) (hs: (Region.noSelect ops&&(Region.free md ops l i&&(Region.ready md ops l).contains i))=true:=by kernel_rfl)
    (hQ: ∀c a w,Q (.panic c) (a.put oi.dst v) w→Q (.panic c) a w:=by exact fun _ _ _ h=>h) (hw:Region.wanted oi (yielded ops a.tmps)=true:=by rfl) (hy: ∀w,S w→(execOp a.eval oi).run P w=.ok (.value v) w:=by(intro w hSw;(try dsimp only at hSw);go_simp;(try with_reducible rfl))) (hS:S w:=by assumption):wpAnyH P md ops Q S (n+1) l a w:=Htake hi hs hQ (.inl ⟨hw,hy⟩) hS h
end
theorem bA1 :Below w.heap.size w (w.alloc o):=(Below.refl _ _).alloc (Nat.le_refl _) _
theorem bA2 {p:Obj}:Below w.heap.size w ((w.alloc o).alloc p):=((Below.refl _ _).alloc (Nat.le_refl _) _).alloc (by simp) _
theorem bT {a b c:World} (h:Below a.heap.size a b) (g:Below b.heap.size b c):Below a.heap.size a c:=h.trans (g.mono h.size)
end
section
open Go.RowKit
def vals (xs:List Int):List Value:=xs.map (Value.int .i64)
theorem za3 (xs:List Int): (vals xs).length=xs.length:=by simp [vals]
theorem zc9 (xs:List Int) (i:Nat) (h:i<xs.length): (vals xs)[i]?=some (.int .i64 (xs.getD i 0)):=by simp [vals,h]
def zat (w:World) (g:Nat) (xs:List Int):Prop:=w.heap[g]?=some (.cells (vals xs).toArray 3 (0,0))
theorem zat.cell (h:zat w g xs) (i:Nat) (hi:i<xs.length):w.cell? ⟨g,i,none⟩=some (.int .i64 (xs.getD i 0)):=by
  unfold zat at h
  simp [World.cell?,h,vals,hi]
theorem zat.free (h:zat w g xs) (i:Nat):w.frozen? ⟨g,i,none⟩=false:=by
  unfold zat at h
  simp [World.frozen?,h]
theorem zat.isInts (h:zat w g xs):zag w (some ⟨g,0,none⟩) xs:=
  .inr ⟨g,0,rfl,fun i hi=>by rw [Nat.zero_add];exact h.cell i hi⟩
theorem zat.lt (h:zat w g xs):g<w.heap.size:=(Array.getElem?_eq_some_iff.1 h).1
theorem zat.below {w' :World} (h:zat w g xs) (hb:Below B w w') (hg:g<B):zat w' g xs:=by
  unfold zat;rw [hb.block g hg];exact h
theorem zat.set (h:zat w g xs) (i:Nat) (v:Int):zat (w.setCell ⟨g,i,none⟩ (.int .i64 v)) g (xs.set i v):=by
  unfold zat at h⊢;simp only [World.setCell,Array.getElem?_modify]
  simp [h,vals]
theorem zef: (Tryz.prog.info? 3).map (fun i=>(i.zero,i.size,i.bytes))=some (some (.int .i64 0),1,8):=by kernel_rfl
theorem zmh (n:Nat):madeCells (Value.int .i64 0).cells n= (vals (List.replicate n 0)).toArray:=by
  apply Array.toList_inj.1
  show(madeCells #[Value.int .i64 0] n).toList=_
  rw [toList_madeCells_one]
  simp [vals]
theorem zes (n:Nat) (w:World) (h:n * 8≤281474976710656):
    (Instr.makeSlice 26 (.int .i64 n) (.int .i64 n)).run Tryz.prog w=.ok (.slice (some ⟨w.heap.size,0,none⟩) n n) (w.alloc (.cells (vals (List.replicate n 0)).toArray 3)):=by
  obtain ⟨i0,hi,hz0,hz1,hz2⟩:=info_parts zef;have:=run_make (P:=Tryz.prog) w 26 3 i0 (.int .i64 0) Tryz.underlying26 hi hz0 .i64 .i64 n n (by omega) (by omega) (by rw [hz2];omega) (by omega);rw [hz1,Int.toNat_natCast,Nat.mul_one,zmh] at this;exact this
theorem zea: (Tryz.prog.info? 3).map (fun i=>i.size)=some 1:=by kernel_rfl
theorem zbu (xs:List Int): ∀v∈vals xs,v.oneCell' =true:=by
  intro v hv
  simp [vals] at hv
  obtain ⟨x,_,rfl⟩:=hv;rfl
theorem zmd (a:Option Addr) (n c:Nat) (xs:List Int) (w:World) (h:zag w a xs) (hn:xs.length=n):
    (Builtin.copy_ #[26,26] 3 #[.slice (some ⟨w.heap.size,0,none⟩) n n,.slice a n c]).run Tryz.prog (w.alloc (.cells (vals (List.replicate n 0)).toArray 3))=.ok (goInt n) (w.alloc (.cells (vals xs).toArray 3)):=by
  subst hn;have h' :=h.alloc (.cells (vals (List.replicate xs.length 0)).toArray 3)
  rcases h' with rfl| ⟨b,off,rfl,hc⟩
  { exact run_copy_none (P:=Tryz.prog) _ 26 26 3 3 _ a 0 0 0 c Tryz.underlying26 zea rfl }
  {
  have:=run_copy_row (P:=Tryz.prog) (w.alloc (.cells (vals (List.replicate xs.length 0)).toArray 3)) 26 26 3 3 w.heap.size 0 xs.length xs.length ⟨b,off,none⟩ xs.length c _ 3 (vals xs) Tryz.underlying26 zea (heap_alloc_last w _) (by simp [vals]) ?_ (by simp [vals]) (zbu xs)
  {
  rw [this,za3,World.setRow_alloc_new]
  simp [vals]
  }
  {
  intro j v hv;have hj:j<xs.length:=by
    have:=(List.getElem?_eq_some_iff.1 hv).1
    simpa [vals] using this
  rw [zc9 xs j hj] at hv;cases hv;have hcj:=hc j hj
  by_cases hj0:j=0
  { subst hj0;simpa [Addr.add] using hcj }
  {
  simpa [Addr.add,hj0] using hcj
  }
  }
  }
theorem zab {W' :World} (h:W.heap[k]?=some o) (hb:Below W.heap.size W W'):W'.heap[k]?=some o:=by
  rw [hb.block k (Array.getElem?_eq_some_iff.1 h).1];exact h
theorem zai (h:W.heap[k]?=some o) (o' :Obj): (W.alloc o').heap[k]?=some o:=zab h ((Below.refl _ _).alloc (Nat.le_refl _) _)
theorem zaa (h:W.heap[k]?=some (.cells cs t (0,0))) (i:Nat) (v:Value) (hv:cs[i]?=some v):W.cell? ⟨k,i,none⟩=some v:=by
  simp [World.cell?,h,hv]
theorem zad (h:W.heap[k]?=some (.cells cs t (0,0))) (i:Nat):W.frozen? ⟨k,i,none⟩=false:=by
  simp [World.frozen?,h]
theorem zak (h:W.heap[k]?=some o):k<W.heap.size:=(Array.getElem?_eq_some_iff.1 h).1
def okW (n:Int):Bool:=decide (0≤n∧n≤65535)
def okL (xs:List Int):Bool:=xs.all okW
theorem okW_neg {v:Int} (h:v<0):okW v=false:=by unfold okW;simp;omega
theorem okW_hi {v:Int} (h: ¬v≤65535):okW v=false:=by unfold okW;simp;omega
theorem okW_in {v:Int} (h0: ¬v<0) (h:v≤65535):okW v=true:=by unfold okW;simp;omega
theorem zpk (v:Int) (w:World):Calls Tryz.prog 263 #[.int .i64 v] w fun e w' =>e=.returned (.bool (!okW v))∧w' =w:=by
  by_cases h0:v<0
  {
  go_enter Tryz.func263,Tryz.ntmps263;go_wp2;go_ret;exact⟨zan (by rw [okW_neg (by omega)];rfl),rfl⟩
  }
  {
  by_cases h1:v≤65535
  {
  have hd:decide (65535<v)=false:=by simp;omega
  go_enter Tryz.func263,Tryz.ntmps263;go_wp2;go_ret;exact⟨zan (by rw [okW_in (by omega) (by omega)];rfl),rfl⟩
  }
  {
  go_enter Tryz.func263,Tryz.ntmps263;go_wp2;go_ret;exact⟨zan (by rw [okW_hi (by omega)];rfl),rfl⟩
  }
  }
theorem zqt (v:Int) (w:World):Calls Tryz.prog 212 #[.int .i64 v] w fun e w' =>e=.returned (.bool (okW v))∧w' =w:=by
  by_cases h0:v<0
  {
  go_enter Tryz.func212,Tryz.ntmps212;go_wp2;go_ret;exact⟨zan (by rw [okW_neg (by omega)]),rfl⟩
  }
  {
  by_cases h1:v≤65535
  {
  go_enter Tryz.func212,Tryz.ntmps212;go_wp2;go_ret;exact⟨zan (by rw [okW_in (by omega) (by omega)]),rfl⟩
  }
  {
  have hd:decide (v≤65535)=false:=by simp;omega
  go_enter Tryz.func212,Tryz.ntmps212;go_wp2;go_ret;exact⟨zan (by rw [okW_hi (by omega)]),rfl⟩
  }
  }
theorem zku (v:Int) (w:World):Calls Tryz.prog 211 #[.int .i64 v] w fun e w' =>e=.returned (.bool (!okW v))∧w' =w:=by
  go_enter Tryz.func211,Tryz.ntmps211;go_wp2_with fail;refine(zqt _ _).mono ?_;rintro e w' ⟨rfl,rfl⟩;go_wp2;go_ret;exact⟨rfl,rfl⟩
theorem okL_step (hk:k<xs.length) (h:okL (xs.take k)=true) (hv:okW xs[k]=true):okL (xs.take (k+1))=true:=by
  unfold okL at h⊢;rw [List.take_succ_eq_append_getElem hk,List.all_append,h]
  simp [hv]
theorem okL_stop (hk:k<xs.length) (hv:okW xs[k]=false):okL xs=false:=by
  unfold okL;rw [List.all_eq_false];exact⟨xs[k],List.getElem_mem hk,by simp [hv]⟩
theorem zjk (g:Nat) (hg:g=263∨g=211) (a:Option Addr) (n c:Nat) (xs:List Int) (w:World) (h:zag w a xs) (hn:xs.length=n) (hm:n≤maxLen):
    Calls Tryz.prog 259 #[.slice a n c,.func (.func g) #[] #[]] w fun e w' =>(∃q:Int,e=.returned (.int .i64 q)∧decide (0≤q)=!okL xs)∧w' =w:=by
  have hp: ∀(v:Int) (w:World),Calls Tryz.prog g #[.int .i64 v] w fun e w' =>e=.returned (.bool (!okW v))∧w' =w:=by
    rcases hg with rfl|rfl
    { exact zpk }
    { exact zku }
  have HP:=hide hp;clear hp;unfold maxLen at hm;have HN:Hid (xs.length=n):=hn
  rcases hg with rfl|rfl
  all_goals
    go_enter Tryz.func259,Tryz.ntmps259;go_wp2
    go_loop [8] (fun i=>∃k:Nat,k≤n∧i=.int .i64 k∧Hid (okL (xs.take k)=true)) (fun i=>n - (intOf i).toNat)
    case atStart=>exact⟨0,Nat.zero_le _,rfl,rfl⟩
    case round=>
      obtain ⟨k,hk,rfl,ht⟩:=hrel
      by_cases hlt:k<n
      {
      rcases h with rfl| ⟨b0,o0,rfl,hc0⟩
      { simp at hn;omega }
      have hkx:k<xs.length:=by omega
      have e0:=hc0 k hkx;clear hn hc0;go_wp2_with fail;refine(zae HP _ _).mono ?_;rintro e w' ⟨rfl,rfl⟩;cases hv:okW xs[k]
      {
      have HV:Hid (okW xs[k]=false):=hv;clear hv;go_wp2;go_ret;exact⟨⟨k,rfl,by rw [okL_stop hkx HV.out];simp⟩,rfl⟩
      }
      {
      have HV:Hid (okW xs[k]=true):=hv;clear hv;go_wp2
      go_round
      case rel=>exact⟨k+1,by omega,by go_num,okL_step hkx ht.out HV.out⟩
      case measure=>simp [intOf];omega
      }
      }
      {
      go_wp2;go_ret;have hx:=ht.out;rw [List.take_of_length_le (by omega)] at hx;exact⟨⟨-1,rfl,by rw [hx];rfl⟩,rfl⟩
      }
theorem zhc (g:Nat) (hg:g=263∨g=211) (a:Option Addr) (n c:Nat) (xs:List Int) (w:World) (h:zag w a xs) (hn:xs.length=n) (hm:n≤maxLen):
    Calls Tryz.prog 210 #[.slice a n c,.func (.func g) #[] #[]] w fun e w' =>e=.returned (.bool (!okL xs))∧w' =w:=by
  have hc:=hide (zjk g hg a n c xs w h hn hm);clear hn
  rcases hg with rfl|rfl
  all_goals
    go_enter Tryz.func210,Tryz.ntmps210;go_wp2_with fail;refine(zae hc).mono ?_;rintro e w' ⟨⟨q,rfl,hq⟩,rfl⟩;go_wp2;go_ret;exact⟨rfl,rfl⟩
theorem zc8 (a:Option Addr) (n c:Nat) (xs:List Int) (w:World) (h:zag w a xs) (hn:xs.length=n) (hm:n≤maxLen):
    Calls Tryz.prog 217 #[.slice a n c] w fun e w' =>e=.returned (.bool (okL xs))∧w' =w:=by
  have hc:=hide (zhc 263 (.inl rfl) a n c xs w h hn hm);clear hn;go_enter Tryz.func217,Tryz.ntmps217;go_wp2_with fail;refine(zae hc).mono ?_;rintro e w' ⟨rfl,rfl⟩;go_wp2;go_ret;exact⟨zan (by simp),rfl⟩
abbrev aZ:Array Value:=#[.slice none 0 0,.slice none 0 0,.slice none 0 0,.int .i64 0,.bool false,.int .i64 0,.slice none 0 0,.int .i64 0,.int .i64 0,.slice none 0 0,.slice none 0 0,.slice none 0 0,.slice none 0 0,.slice none 0 0,.int .i64 0]
abbrev aY:Array Value:=#[.slice none 0 0,.int .i64 0,.bool false,.int .i64 0,.slice none 0 0,.int .i64 0,.int .i64 0,.slice none 0 0,.slice none 0 0]
abbrev aX:Array Value:=#[.int .i64 0,.int .i64 0,.bool false,.bool false,.bool false]
abbrev aW:Array Value:=#[.int .i64 0,.int .i64 0,.int .i64 0,.slice none 0 0,.slice none 0 0]
theorem cl15 {v0 v1 v2 v3 v4 v5 v6 v7 v8 v9 v10 v11 v12 v13 v14:Value} (h:W.heap[B]?=some (.cells #[v0,v1,v2,v3,v4,v5,v6,v7,v8,v9,v10,v11,v12,v13,v14] t (0,0))):W.cell? ⟨B,0,none⟩=some v0∧W.cell? ⟨B,1,none⟩=some v1∧W.cell? ⟨B,2,none⟩=some v2∧W.cell? ⟨B,3,none⟩=some v3∧W.cell? ⟨B,4,none⟩=some v4∧W.cell? ⟨B,5,none⟩=some v5∧W.cell? ⟨B,6,none⟩=some v6∧W.cell? ⟨B,7,none⟩=some v7∧W.cell? ⟨B,8,none⟩=some v8∧W.cell? ⟨B,9,none⟩=some v9∧W.cell? ⟨B,10,none⟩=some v10∧W.cell? ⟨B,11,none⟩=some v11∧W.cell? ⟨B,12,none⟩=some v12∧W.cell? ⟨B,13,none⟩=some v13∧W.cell? ⟨B,14,none⟩=some v14:=⟨zaa h 0 _ rfl,zaa h 1 _ rfl,zaa h 2 _ rfl,zaa h 3 _ rfl,zaa h 4 _ rfl,zaa h 5 _ rfl,zaa h 6 _ rfl,zaa h 7 _ rfl,zaa h 8 _ rfl,zaa h 9 _ rfl,zaa h 10 _ rfl,zaa h 11 _ rfl,zaa h 12 _ rfl,zaa h 13 _ rfl,zaa h 14 _ rfl⟩
theorem fr15 (h:W.heap[B]?=some (.cells cs t (0,0))):W.frozen? ⟨B,0,none⟩=false∧W.frozen? ⟨B,1,none⟩=false∧W.frozen? ⟨B,2,none⟩=false∧W.frozen? ⟨B,3,none⟩=false∧W.frozen? ⟨B,4,none⟩=false∧W.frozen? ⟨B,5,none⟩=false∧W.frozen? ⟨B,6,none⟩=false∧W.frozen? ⟨B,7,none⟩=false∧W.frozen? ⟨B,8,none⟩=false∧W.frozen? ⟨B,9,none⟩=false∧W.frozen? ⟨B,10,none⟩=false∧W.frozen? ⟨B,11,none⟩=false∧W.frozen? ⟨B,12,none⟩=false∧W.frozen? ⟨B,13,none⟩=false∧W.frozen? ⟨B,14,none⟩=false:=⟨zad h 0,zad h 1,zad h 2,zad h 3,zad h 4,zad h 5,zad h 6,zad h 7,zad h 8,zad h 9,zad h 10,zad h 11,zad h 12,zad h 13,zad h 14⟩
theorem cl10 {v0 v1 v2 v3 v4 v5 v6 v7 v8 v9:Value} (h:W.heap[B]?=some (.cells #[v0,v1,v2,v3,v4,v5,v6,v7,v8,v9] t (0,0))):W.cell? ⟨B,0,none⟩=some v0∧W.cell? ⟨B,1,none⟩=some v1∧W.cell? ⟨B,2,none⟩=some v2∧W.cell? ⟨B,3,none⟩=some v3∧W.cell? ⟨B,4,none⟩=some v4∧W.cell? ⟨B,5,none⟩=some v5∧W.cell? ⟨B,6,none⟩=some v6∧W.cell? ⟨B,7,none⟩=some v7∧W.cell? ⟨B,8,none⟩=some v8∧W.cell? ⟨B,9,none⟩=some v9:=⟨zaa h 0 _ rfl,zaa h 1 _ rfl,zaa h 2 _ rfl,zaa h 3 _ rfl,zaa h 4 _ rfl,zaa h 5 _ rfl,zaa h 6 _ rfl,zaa h 7 _ rfl,zaa h 8 _ rfl,zaa h 9 _ rfl⟩
theorem fr10 (h:W.heap[B]?=some (.cells cs t (0,0))):W.frozen? ⟨B,0,none⟩=false∧W.frozen? ⟨B,1,none⟩=false∧W.frozen? ⟨B,2,none⟩=false∧W.frozen? ⟨B,3,none⟩=false∧W.frozen? ⟨B,4,none⟩=false∧W.frozen? ⟨B,5,none⟩=false∧W.frozen? ⟨B,6,none⟩=false∧W.frozen? ⟨B,7,none⟩=false∧W.frozen? ⟨B,8,none⟩=false∧W.frozen? ⟨B,9,none⟩=false:=⟨zad h 0,zad h 1,zad h 2,zad h 3,zad h 4,zad h 5,zad h 6,zad h 7,zad h 8,zad h 9⟩
theorem cl9 {v0 v1 v2 v3 v4 v5 v6 v7 v8:Value} (h:W.heap[B]?=some (.cells #[v0,v1,v2,v3,v4,v5,v6,v7,v8] t (0,0))):W.cell? ⟨B,0,none⟩=some v0∧W.cell? ⟨B,1,none⟩=some v1∧W.cell? ⟨B,2,none⟩=some v2∧W.cell? ⟨B,3,none⟩=some v3∧W.cell? ⟨B,4,none⟩=some v4∧W.cell? ⟨B,5,none⟩=some v5∧W.cell? ⟨B,6,none⟩=some v6∧W.cell? ⟨B,7,none⟩=some v7∧W.cell? ⟨B,8,none⟩=some v8:=⟨zaa h 0 _ rfl,zaa h 1 _ rfl,zaa h 2 _ rfl,zaa h 3 _ rfl,zaa h 4 _ rfl,zaa h 5 _ rfl,zaa h 6 _ rfl,zaa h 7 _ rfl,zaa h 8 _ rfl⟩
theorem fr9 (h:W.heap[B]?=some (.cells cs t (0,0))):W.frozen? ⟨B,0,none⟩=false∧W.frozen? ⟨B,1,none⟩=false∧W.frozen? ⟨B,2,none⟩=false∧W.frozen? ⟨B,3,none⟩=false∧W.frozen? ⟨B,4,none⟩=false∧W.frozen? ⟨B,5,none⟩=false∧W.frozen? ⟨B,6,none⟩=false∧W.frozen? ⟨B,7,none⟩=false∧W.frozen? ⟨B,8,none⟩=false:=⟨zad h 0,zad h 1,zad h 2,zad h 3,zad h 4,zad h 5,zad h 6,zad h 7,zad h 8⟩
theorem cl7 {v0 v1 v2 v3 v4 v5 v6:Value} (h:W.heap[B]?=some (.cells #[v0,v1,v2,v3,v4,v5,v6] t (0,0))):W.cell? ⟨B,0,none⟩=some v0∧W.cell? ⟨B,1,none⟩=some v1∧W.cell? ⟨B,2,none⟩=some v2∧W.cell? ⟨B,3,none⟩=some v3∧W.cell? ⟨B,4,none⟩=some v4∧W.cell? ⟨B,5,none⟩=some v5∧W.cell? ⟨B,6,none⟩=some v6:=⟨zaa h 0 _ rfl,zaa h 1 _ rfl,zaa h 2 _ rfl,zaa h 3 _ rfl,zaa h 4 _ rfl,zaa h 5 _ rfl,zaa h 6 _ rfl⟩
theorem fr7 (h:W.heap[B]?=some (.cells cs t (0,0))):W.frozen? ⟨B,0,none⟩=false∧W.frozen? ⟨B,1,none⟩=false∧W.frozen? ⟨B,2,none⟩=false∧W.frozen? ⟨B,3,none⟩=false∧W.frozen? ⟨B,4,none⟩=false∧W.frozen? ⟨B,5,none⟩=false∧W.frozen? ⟨B,6,none⟩=false:=⟨zad h 0,zad h 1,zad h 2,zad h 3,zad h 4,zad h 5,zad h 6⟩
theorem cl5 {v0 v1 v2 v3 v4:Value} (h:W.heap[B]?=some (.cells #[v0,v1,v2,v3,v4] t (0,0))):W.cell? ⟨B,0,none⟩=some v0∧W.cell? ⟨B,1,none⟩=some v1∧W.cell? ⟨B,2,none⟩=some v2∧W.cell? ⟨B,3,none⟩=some v3∧W.cell? ⟨B,4,none⟩=some v4:=⟨zaa h 0 _ rfl,zaa h 1 _ rfl,zaa h 2 _ rfl,zaa h 3 _ rfl,zaa h 4 _ rfl⟩
theorem fr5 (h:W.heap[B]?=some (.cells cs t (0,0))):W.frozen? ⟨B,0,none⟩=false∧W.frozen? ⟨B,1,none⟩=false∧W.frozen? ⟨B,2,none⟩=false∧W.frozen? ⟨B,3,none⟩=false∧W.frozen? ⟨B,4,none⟩=false:=⟨zad h 0,zad h 1,zad h 2,zad h 3,zad h 4⟩
end
section
open Go.RowKit
theorem zc5 {base:Nat} {e:TypeId} {size:Nat} {xs:List Value} (h:w.ownsRow base e size v n xs): ∀k,v.ownBlock=some k→base≤k:=by
  intro k hk;obtain ⟨_,⟨hv,_⟩| ⟨g,cap,cur,hv,hg,_⟩⟩:=h
  { rw [hv] at hk;cases hk }
  {
  rw [hv] at hk;have:g=k:=by simpa [Value.ownBlock] using hk
  omega
  }
theorem zba {w' :World} {base:Nat} {e:TypeId} {size:Nat} {xs:List Value} (h:w.ownsRow base e size v n xs) (hb:Below w.heap.size w w'):w'.ownsRow base e size v n xs:=by
  obtain ⟨h1,h2⟩:=h;refine⟨h1, ?_⟩
  rcases h2 with h2| ⟨g,cap,cur,hv,hg,hh,hr⟩
  { exact .inl h2 }
  {
  exact .inr ⟨g,cap,cur,hv,hg,zab hh hb,hr⟩
  }
theorem zg5 (w:World) (v:Value) (t:TypeId): ∀j u, [v][j]?=some u→(w.alloc (.cells #[v] t)).cell? ((⟨w.heap.size,0,none⟩:Addr).add j)=some u:=by
  intro j u h;cases j with
  |zero=>simp at h;subst h;simp [Addr.add]
  |succ j=>simp at h
end
section
open Go.RowKit
theorem zl3 (a0 a1:Option Addr) (c0 c1:Nat) (xs ys:List Int) (w:World) (h0:zag w a0 xs) (h1:zag w a1 ys) (hx:xs.length≤maxLen) (hy:ys.length≤maxLen):
    Calls Tryz.prog 30 #[.slice a0 xs.length c0,.slice a1 ys.length c1] w fun e w' =>e=.returned (.bool (eqL xs ys))∧∃n,w' =w.drewN n:=by
  unfold maxLen at hx hy
  by_cases hl:xs.length=ys.length
  {
  have hbl: ((xs.length:Int) != (ys.length:Int))=false:=by simp [hl]
  have HL:Hid (xs.length=ys.length):=hl;clear hl;go_enter Tryz.func30,Tryz.ntmps30;go_wp2
  go_loopw [13] (fun i wr=>∃k:Nat,k≤xs.length∧i=.int .i64 k∧xs.take k=ys.take k∧∃n,wr=w.drewN n) (fun i _=>xs.length - (intOf i).toNat)
  case atStart=>exact⟨0,Nat.zero_le _,rfl,rfl,0,rfl⟩
  case round=>
    obtain ⟨k,hk,rfl,ht,n,rfl⟩:=hrel;have HT:Hid (xs.take k=ys.take k):=ht;clear ht
    by_cases hlt:k<xs.length
    {
    have hlt2:k<ys.length:=by have:=HL.out;omega
    rcases h0 with rfl| ⟨b0,o0,rfl,hc0⟩
    { simp at hlt }
    rcases h1 with rfl| ⟨b1,o1,rfl,hc1⟩
    { simp at hlt2 }
    have e0:=hc0 k hlt;have e1:=hc1 k hlt2;clear hc0 hc1
    by_cases he:xs[k]=ys[k]
    {
    have hbe: (xs[k] !=ys[k])=false:=by simp [he]
    have HE:Hid (xs[k]=ys[k]):=he;clear he;go_wp2;go_quiet (fail);go_wp2
    go_roundw
    case rel=>exact⟨k+1,by omega,by go_num,take_step hlt hlt2 HT.out HE.out,n+nq,rfl⟩
    case measure=>simp [intOf];omega
    }
    {
    have hbe: (xs[k] !=ys[k])=true:=by simpa using he
    go_wp2;go_quiet (fail);go_wp2;go_ret;exact⟨zan (eqL_ne hlt hlt2 he).symm,n+nq,by simp⟩
    }
    }
    {
    go_wp2;go_ret;exact⟨zan (eqL_take HL.out (by omega) HT.out).symm,n,rfl⟩
    }
  }
  {
  have hbl: ((xs.length:Int) != (ys.length:Int))=true:=by simp;omega
  go_enter Tryz.func30,Tryz.ntmps30;go_wp2;go_ret;exact⟨zan (eqL_len hl).symm,0,rfl⟩
  }
theorem zfj (a0 a1:Option Addr) (n0 n1 c0 c1:Nat) (xs ys:List Int) (q:Bool) (w:World) (h0:zag w a0 xs) (h1:zag w a1 ys) (e0:xs.length=n0) (e1:ys.length=n1) (hq:eqL xs ys=q) (hx:n0≤maxLen) (hy:n1≤maxLen):
    Calls Tryz.prog 30 #[.slice a0 n0 c0,.slice a1 n1 c1] w fun e w' =>e=.returned (.bool q)∧∃n,w' =w.drewN n:=by
  subst e0 e1 hq;exact zl3 a0 a1 c0 c1 xs ys w h0 h1 hx hy
end
section
open Go.RowKit
theorem zm2 (a:Option Addr) (n c:Nat) (xs:List Int) (w:World) (h:zag w a xs) (hn:xs.length=n) (hsz:n * 8≤140737488351232):
    Calls Tryz.prog 301 #[.slice a n c] w fun e w' =>e=.returned (.slice (some ⟨w.heap.size,0,none⟩) n n)∧zat w' w.heap.size xs∧Below w.heap.size w w' :=by
  have hmk:=zes n w (by omega);have hcp:=zmd a n c xs w h hn;clear hn;go_enter Tryz.func301,Tryz.ntmps301;go_wp2;go_ret;refine⟨rfl, ?_,(Below.refl _ _).alloc (Nat.le_refl _) _⟩;exact heap_alloc_last w _
end
section
open Go.RowKit
def fitB (L:Nat) (at' n:Int):Bool:=decide (0≤at' ∧0≤n∧n≤(L:Int)- at')
theorem zqv (a:Option Addr) (L c:Nat) (fuel at' n:Int) (w:World) (hL:L≤maxLen) (hn: -9223372036854775808≤n∧n≤9223372036854775807) (ha: -9223372036854775808≤at' ∧at' ≤9223372036854775807):
    Calls Tryz.prog 283 #[.agg #[.slice a L c,.int .i64 fuel],.int .i64 at',.int .i64 n] w fun e w' =>e=.returned (.bool (fitB L at' n))∧Below w.heap.size w w' :=by
  unfold maxLen at hL;have hb:Below w.heap.size w (w.alloc (.cells #[.slice a L c,.int .i64 fuel] 28)):=(Below.refl _ _).alloc (Nat.le_refl _) _
  by_cases h0:0≤at'
  {
  by_cases h1:0≤n
  {
  by_cases h2:n≤(L:Int)- at'
  {
  go_enter Tryz.func283,Tryz.ntmps283;go_wp2;go_ret;exact⟨zan (by unfold fitB;simp;omega),hb⟩
  }
  {
  have hd:decide (n≤(L:Int)- at')=false:=by simp;omega
  go_enter Tryz.func283,Tryz.ntmps283;go_wp2;go_ret;exact⟨zan (by unfold fitB;simp;omega),hb⟩
  }
  }
  {
  go_enter Tryz.func283,Tryz.ntmps283;go_wp2;go_ret;exact⟨zan (by unfold fitB;simp;omega),hb⟩
  }
  }
  {
  go_enter Tryz.func283,Tryz.ntmps283;go_wp2;go_ret;exact⟨zan (by unfold fitB;simp;omega),hb⟩
  }
def formB (L:Nat):Bool:=decide (L % 32=0∧0<L∧L≤192)
def zc0 (xs:List Int) (fuel:Int):Bool:=decide (-1≤fuel∧fuel≤100000)&&okL xs
def chk (xs:List Int) (fuel:Int):Int:=if formB xs.length=false then 4 else if zc0 xs fuel=false then 3 else 0
theorem zi8 (h:formB xs.length=false):chk xs fuel=4:=by unfold chk;rw [if_pos h]
theorem zhk (h:formB xs.length=true) (h2:zc0 xs fuel=false):chk xs fuel=3:=by unfold chk;rw [if_neg (by simp [h]),if_pos h2]
theorem chk_ok (h:formB xs.length=true) (h2:zc0 xs fuel=true):chk xs fuel=0:=by unfold chk;rw [if_neg (by simp [h]),if_neg (by simp [h2])]
theorem zao {k:IntKind} {a b:Int} (h:a=b):Ending.returned (.int k a)=.returned (.int k b):=by rw [h]
theorem zf5 (a:Option Addr) (n c:Nat) (xs:List Int) (fuel:Int) (w:World) (h:zag w a xs) (hn:xs.length=n) (hm:n≤maxLen):
    Calls Tryz.prog 235 #[.agg #[.slice a n c,.int .i64 fuel]] w fun e w' =>e=.returned (.int .i64 (chk xs fuel))∧Below w.heap.size w w' :=by
  have hal:=fun W (h:zag W a xs)=>zc8 a n c xs W h hn hm
  have HA:=hide hal;clear hal;have h1:=h.alloc (.cells #[.slice a n c,.int .i64 fuel] 28);unfold maxLen at hm;have hb:Below w.heap.size w (w.alloc (.cells #[.slice a n c,.int .i64 fuel] 28)):=(Below.refl _ _).alloc (Nat.le_refl _) _;have HN:=hide hn;clear hn
  by_cases c1:n=0
  {
  subst c1;go_enter Tryz.func235,Tryz.ntmps235;go_wp2;go_ret;exact⟨zao (zi8 (by rw [HN.out];rfl)).symm,hb⟩
  }
  have c1' : ((n:Int)==0)=false:=by simp;omega
  by_cases c2:n % 32=0
  rotate_left
  {
  have c2' : ((n:Int)% 32 !=0)=true:=by simp;omega
  go_enter Tryz.func235,Tryz.ntmps235;go_wp2;go_ret;exact⟨zao (zi8 (by rw [HN.out];unfold formB;simp;omega)).symm,hb⟩
  }
  have c2' : ((n:Int)% 32 !=0)=false:=by simp;omega
  by_cases c3:n≤192
  rotate_left
  {
  go_enter Tryz.func235,Tryz.ntmps235;go_wp2;go_ret;exact⟨zao (zi8 (by rw [HN.out];unfold formB;simp;omega)).symm,hb⟩
  }
  have hform:Hid (formB xs.length=true):=by rw [HN.out];exact decide_eq_true ⟨c2,by omega,c3⟩
  have c3' :decide (192< (n:Int))=false:=by simp;omega
  clear c2 c1
  by_cases c4:fuel< -1
  {
  have hr:Hid (zc0 xs fuel=false):=by show _=_;unfold zc0;simp;omega
  go_enter Tryz.func235,Tryz.ntmps235;go_wp2;go_ret;exact⟨zao (zhk hform.out hr.out).symm,hb⟩
  }
  have c4' :decide (fuel< -1)=false:=by simp;omega
  by_cases c5:fuel≤100000
  rotate_left
  {
  have hr:Hid (zc0 xs fuel=false):=by show _=_;unfold zc0;simp;omega
  go_enter Tryz.func235,Tryz.ntmps235;go_wp2;go_ret;exact⟨zao (zhk hform.out hr.out).symm,hb⟩
  }
  have c5' :decide (100000<fuel)=false:=by simp;omega
  cases hok:okL xs
  {
  have hr:Hid (zc0 xs fuel=false):=by show _=_;unfold zc0;simp [hok]
  have HO:=hide hok;clear hok;go_enter Tryz.func235,Tryz.ntmps235;go_wp2_with fail;refine(zae HA _ h1).mono ?_;rintro e w' ⟨rfl,rfl⟩;rw [HO.out];go_wp2;go_ret;exact⟨zao (zhk hform.out hr.out).symm,hb⟩
  }
  {
  have hr:Hid (zc0 xs fuel=true):=by show _=_;unfold zc0;simp [hok];omega
  have HO:=hide hok;clear hok;go_enter Tryz.func235,Tryz.ntmps235;go_wp2_with fail;refine(zae HA _ h1).mono ?_;rintro e w' ⟨rfl,rfl⟩;rw [HO.out];go_wp2;go_ret;exact⟨zao (chk_ok hform.out hr.out).symm,hb⟩
  }
end
section
open Go.RowKit
theorem znq (a:Option Addr) (n c:Nat) (xs:List Int) (fuel:Int) (w:World) (h:zag w a xs) (hn:xs.length=n) (hsz:n * 8≤140737488351232):
    Calls Tryz.prog 280 #[.agg #[.slice a n c,.int .i64 fuel]] w fun e w' =>∃g,w.heap.size≤g∧e=.returned (.agg #[.slice (some ⟨g,0,none⟩) n n,.int .i64 fuel])∧zat w' g xs∧Below w.heap.size w w' :=by
  have htw:=fun W (h:zag W a xs)=>zm2 a n c xs W h hn hsz
  have HT:=hide htw;clear htw;have h1:=(h.alloc (.cells #[.slice a n c,.int .i64 fuel] 28)).alloc (.cells #[.slice none 0 0,.int .i64 0] 28);go_enter Tryz.func280,Tryz.ntmps280;go_wp2_with fail
  go_region_held3 (fun w' =>w'.cell? ⟨w.heap.size,0,none⟩=some (.slice a n c)∧w'.cell? ⟨w.heap.size,1,none⟩=some (.int .i64 fuel)) (first|exact⟨by assumption,by assumption⟩|go_keep)
    ((go_at_call 301;refine(zae HT _ ?_).mono ?_;exact h1;rintro e w1 ⟨rfl,ho1,hb1⟩;have q0:w1.cell? ⟨w.heap.size,0,none⟩=some (.slice a n c):=(by rw [hb1.cell (by simp;omega)];simp);have q1:w1.cell? ⟨w.heap.size,1,none⟩=some (.int .i64 fuel):=(by rw [hb1.cell (by simp;omega)];simp);
      have q2:w1.cell? ⟨w.heap.size+1,0,none⟩=some (.slice none 0 0):=(by rw [hb1.cell (by simp)];simp);have q3:w1.cell? ⟨w.heap.size+1,1,none⟩=some (.int .i64 0):=(by rw [hb1.cell (by simp)];simp);have q4:w1.frozen? ⟨w.heap.size+1,0,none⟩=false:=(by rw [hb1.frozen (by simp)];simp);have q5:w1.frozen? ⟨w.heap.size+1,1,none⟩=false:=(by rw [hb1.frozen (by simp)];simp)))
  go_wp2;refine bodyPost_ret (v:=.agg #[.slice (some ⟨w.heap.size+1+1,0,none⟩) n n,.int .i64 fuel]) (by simp [results,Tryz.results280,go_sem,q2,q3]) rfl ⟨w.heap.size+1+1,by omega,rfl, ?_, ?_⟩
  {
  simp at ho1
  unfold zat;rw [Below.heap_setCell _ _ _ _ (by simp),Below.heap_setCell _ _ _ _ (by simp)];exact ho1
  }
  {
  refine Below.setCell (Below.setCell ?_ (by simp) _) (by simp) _;have hb0:Below w.heap.size w ((w.alloc (.cells #[.slice a n c,.int .i64 fuel] 28)).alloc (.cells #[.slice none 0 0,.int .i64 0] 28)):=((Below.refl _ _).alloc (Nat.le_refl _) _).alloc (by simp) _;exact hb0.drew.trans (hb1.mono (by simp;omega))
  }
end
end Go.Proofs.YthmekfcgdfckaaaGreatDoor
