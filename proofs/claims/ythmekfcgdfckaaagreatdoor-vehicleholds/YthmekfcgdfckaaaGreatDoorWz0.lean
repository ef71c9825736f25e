/- Facts. -/
import Derived.Test.YthmekfcgdfckaaaGreatDoorRows
import Derived.WalkKit
import Derived.WalkSpells
import Derived.WalkLawsBesides
import Derived.Deep.QuietTactic
import Derived.BigQuiet
import Derived.Deep.RegionHeld
import Derived.Deep.DrawnRows
import Derived.Laws.CopyOwn
import Derived.Deep.RegionWith
import Derived.Deep.WholeRow
import Derived.Deep.RegionHeld3
set_option maxRecDepth 1000000
set_option maxHeartbeats 0
namespace Go.Proofs.YthmekfcgdfckaaaGreatDoor
section
open Go.RowKit
set_option linter.defProp false
def kA:=@below_drewN
def kD:=@IntKind.wrap_i64
def kE:=@Below.drew
def kF:=@Below.alloc
def kG:=@List.mem_cons_self
def kH:=@List.all_eq_true
def kI:=@List.mem_cons_of_mem
def kJ:=@Option.some.inj
def kK:=@Nat.min_eq_left
def kL:=@List.mem_map
def kM:=@Go.wp_at_zero
def kO:=@Go.wp_at_succ
def kP:=@heap_alloc_last
def kQ:=@Nat.le_refl
def kS:=@Below.refl
def kT:=@bodyPost_ret
def kU:=@AllReadyH.cons
def kW:=@AllReadyH.nil
def kX:=@List.getElem?_eq_getElem
def kY:=@List.getElem?_eq_some_iff
def kZ:=@wpAnyH_ready
def ka:=@List.getD_eq_getElem?_getD
def kc:=@Nat.le_trans
def ke:=@beq_eq_false_iff_ne
def kf:=@World.grownBy.refl
def kh:=@List.take_of_length_le
def ki:=@Below.heap_setCell
def kj:=@List.length_append
def kl:=@List.take_succ_eq_append_getElem
def km:=@wp_region_held_drew
def kn:=@List.eq_nil_of_length_eq_zero
def kp:=@Int.toNat_natCast
def kq:=@List.drop_eq_getElem_cons
def kr:=@Bool.and_eq_true
def kt:=@List.mem_cons
def kw:=@Nat.lt_of_lt_of_le
def ky:=@Classical.byContradiction
def KA:=@List.setIfInBounds_toArray
def KB:=@World.size_alloc
def KC:=@List.getElem?_append_right
def KD:=@List.getElem?_append_left
def KE:=@wpAnyH_done
def KF:=@decide_eq_true_eq
def KG:=@Nat.zero_le
def KH:=@List.getElem_mem
def KJ:=@if_neg
def KK:=@if_pos
def KL:=@List.getElem?_cons_succ
def KM:=@List.getElem?_cons_zero
def KN:=@List.getElem?_toArray
def KP:=@Array.getElem?_modify
def KQ:=@List.length_take
def KS:=@List.mem_append
def KW:=@List.append_assoc
def KX:=@List.length_cons
def KY:=@List.not_mem_nil
def KZ:=@World.ownsRow_nil
def Ka:=@List.getElem?_set
def Kb:=@List.set_cons_zero
def Kc:=@List.set_cons_succ
def Kd:=@List.getElem_cons_zero
def Ke:=@List.getElem_cons_succ
def Kf:=@List.getElem_toArray
def Kg:=@Nat.le_of_eq
def Kh:=@Array.getElem?_eq_some_iff
def Ki:=@Array.length_toList
def Kj:=@List.drop_eq_nil_of_le
def Kk:=@Nat.mul_le_mul_right
def Kl:=@Nat.zero_add
def Km:=@Int.eq_ofNat_of_zero_le
def Kn:=@List.take_append_of_le_length
def Ko:=@Nat.mul_one
def Kp:=@List.mem_of_getElem?
def Kr:=@List.length_map
abbrev bZ (w:World):=Below w.heap.size w
abbrev iV (n:Int):Value:=.int .i64 n
abbrev nV:Value:=.slice none 0 0
def Hd (p:Prop):Prop:=p
theorem Hd.o {p:Prop} (h:Hd p):p:=h
theorem wr1 {P:Program} {md:Region.Mode} {ops:Array Oper} {Q:Exit->Act->World->Prop} {S:World->Prop} (i:Nat) {fuel:Nat} {listed:Array Bool} {a:Act} {w:World} {o:Oper} (h:∀K':Act->World->Prop,Shut (∀a w,S w->(S w->wpAnyH P md ops Q S fuel (listed.setIfInBounds i true) a w)->K' a w)->if Region.wanted o (yielded ops a.tmps)=true then Oper.wp P o a w K' Q else K' (a.put o.dst undef) w) (hr:Region.ready md ops listed=[i]:=by kernel_rfl) (ho:ops[i]?=some o:=by rfl):wpAnyH P md ops Q S (fuel+1) listed a w:=wpAnyH_ready hr (by simp) (AllReadyH.cons ho h AllReadyH.nil)
abbrev ce (w:World) (b i:Nat):=w.cell? ⟨b,i,none⟩
abbrev cZ (w:World) (b i:Nat):=w.frozen? ⟨b,i,none⟩
abbrev sV (b n c:Nat):Value:=.slice (some ⟨b,0,none⟩) n c
abbrev LI:=List Int
abbrev LL:=List (List Int)
abbrev LB:=List ByteArray
abbrev LV:=List Value
abbrev oA:=Option Addr
abbrev Cq (f:Nat) (a:Array Value) (w:World) (Q:Ending->World->Prop):=Calls Tryz.prog f a w Q
end
open Go.RowKit
variable {xs ys:LI} {k n g B:Nat} {a:oA} {w W:World} {v:Value} {o:Obj} {cs:Array Value} {t:TypeId} {fuel:Int}
theorem uH {p:Prop} (h:p):Hd p:=h
theorem zae {p:Prop} (h:Hd p):p:=h
def zag (w:World) (a:oA) (xs:LI):Prop:=
 xs= []\/∃b off,a=some ⟨b,off,none⟩/\∀i,i<xs.length->w.cell? ⟨b,off+i,none⟩=some (iV (xs.getD i 0))
def eqL (xs ys:LI):Bool:=decide (xs=ys)
theorem eqL_len (h:xs.length≠ys.length):eqL xs ys=false:=by
 unfold eqL;simp;intro e;exact h (by rw [e])
theorem eqL_take (hl:xs.length=ys.length) (hk:xs.length<=k) (h:xs.take k=ys.take k):eqL xs ys=true:=by
 unfold eqL;rw [kh hk,kh (by omega)] at h
 simp [h]
theorem eqL_ne (hx:k<xs.length) (hy:k<ys.length) (h: ¬xs[k]=ys[k]):eqL xs ys=false:=by
 unfold eqL;simp;intro e;subst e;exact h rfl
theorem take_step (hx:k<xs.length) (hy:k<ys.length) (h:xs.take k=ys.take k) (he:xs[k]=ys[k]):xs.take (k+1)=ys.take (k+1):=by
 rw [kl hx,kl hy,h,he]
theorem zan {a b:Bool} (h:a=b):Ending.returned (.bool a)=.returned (.bool b):=by rw [h]
theorem zah {p:Addr} (h:w.cell? p=some v):p.block<w.heap.size:=by
 unfold World.cell? at h
 split at h<;>simp_all
 rename_i hb
 obtain ⟨hlt,_⟩:=Kh.1 hb;exact hlt
theorem zag.bl {w' :World} (h:zag w a xs) (hb:bZ w w'):zag w' a xs:=by
 rcases h with h| ⟨b,off,rfl,hc⟩
 { exact .inl h }
 {
 exact .inr ⟨b,off,rfl,fun i hi=>by rw [hb.cell (zah (hc i hi))];exact hc i hi⟩ }
theorem zag.alloc (h:zag w a xs) (o:Obj):zag (w.alloc o) a xs:=
 h.bl ((kS _ _).alloc (kQ _) _)
theorem zag.drewN (h:zag w a xs) (n:Nat):zag (w.drewN n) a xs:=
 h.bl (kA (kS _ _) n)
theorem zd2 (w:World) (b:Nat) (xs:LI) (vs:Array Value) (t:TypeId) (hb:b=w.heap.size) (hv:vs= (xs.map (iV)).toArray):zag (w.alloc (.cells vs t)) (some ⟨b,0,none⟩) xs:=by
 subst hb hv;refine .inr ⟨_,_,rfl,fun i hi=> ?_⟩
 simp [hi]
section
variable {P:Program} {ops:Array Oper} {Q:Exit->Act->World->Prop} {md:Region.Mode} {S:World->Prop}
theorem sq: (∀(a:Act) (i:Nat) (v:Value),a.put (some i) v= { a with tmps:=a.tmps.setIfInBounds i v })/\(∀(a:Act) (v:Value),a.put none v=a)/\(∀(l:LV) (i:Nat) (a:Value),l.toArray.setIfInBounds i a= (l.set i a).toArray)/\(∀(x:Value) (xs:LV) (a:Value),(x::xs).set 0 a=a::xs)/\(∀(x:Value) (xs:LV) (n:Nat) (a:Value),(x::xs).set (n+1) a=x::xs.set n a)/\
 (∀(l:List Bool) (i:Nat) (a:Bool),l.toArray.setIfInBounds i a= (l.set i a).toArray)/\(∀(x:Bool) (xs:List Bool) (a:Bool),(x::xs).set 0 a=a::xs)/\(∀(x:Bool) (xs:List Bool) (n:Nat) (a:Bool),(x::xs).set (n+1) a=x::xs.set n a):=
 ⟨fun _ _ _=>rfl,fun _ _=>rfl,fun _ _ _=>KA ..,fun _ _ _=>rfl,fun _ _ _ _=>rfl,fun _ _ _=>KA ..,fun _ _ _=>rfl,fun _ _ _ _=>rfl⟩
theorem Htake {i:Nat} {oi:Oper} {l:Array Bool} {a:Act} (hi:ops[i]?=some oi) (hs: (Region.noSelect ops&&(Region.free md ops l i&&(Region.ready md ops l).contains i))=true)
 (hQ: ∀c a w,Q (.panic c) (a.put oi.dst v) w->Q (.panic c) a w) (hy:YieldsIf P ops S oi v a) (hS:S w) (h:wpAnyH P md ops Q S n (l.setIfInBounds i true) (a.put oi.dst v) w):wpAnyH P md ops Q S (n+1) l a w:=by
 simp only [kr] at hs;exact wpAnyH_take hi hs.1 hs.2.1 hs.2.2 hQ hy hS h
theorem Htk (i:Nat) {oi:Oper} {l:Array Bool} {a:Act} (h:wpAnyH P md ops Q S n (l.setIfInBounds i true) (a.put oi.dst v) w) (hi:ops[i]?=some oi:=by(simp only [KN,KM,KL];rfl)) (hs: (Region.noSelect ops&&(Region.free md ops l i&&(Region.ready md ops l).contains i))=true:=by kernel_rfl)
 (hQ: ∀c a w,Q (.panic c) (a.put oi.dst v) w->Q (.panic c) a w:=by exact fun _ _ _ h=>h) (hw:Region.wanted oi (yielded ops a.tmps)=true:=by rfl) (hy: ∀w,S w->(execOp a.eval oi).run P w=.ok (.value v) w:=by(intro w hSw;(try dsimp only at hSw);go_simp;(try with_reducible rfl))) (hS:S w:=by assumption):wpAnyH P md ops Q S (n+1) l a w:=Htake hi hs hQ (.inl ⟨hw,hy⟩) hS h
end
theorem bA1 :bZ w (w.alloc o):=(kS _ _).alloc (kQ _) _
theorem bA2 {p:Obj}:bZ w ((w.alloc o).alloc p):=((kS _ _).alloc (kQ _) _).alloc (by simp) _
theorem bT {a b c:World} (h:bZ a b) (g:bZ b c):bZ a c:=h.trans (g.mono h.size)
def vals (xs:LI):LV:=xs.map (iV)
theorem za3 (xs:LI): (vals xs).length=xs.length:=by simp [vals]
theorem zc9 (xs:LI) (i:Nat) (h:i<xs.length): (vals xs)[i]?=some (iV (xs.getD i 0)):=by simp [vals,h]
def zat (w:World) (g:Nat) (xs:LI):Prop:=w.heap[g]?=some (.cells (vals xs).toArray 3 (0,0))
theorem zat.cell (h:zat w g xs) (i:Nat) (hi:i<xs.length):w.cell? ⟨g,i,none⟩=some (iV (xs.getD i 0)):=by
 unfold zat at h
 simp [World.cell?,h,vals,hi]
theorem zat.free (h:zat w g xs) (i:Nat):w.frozen? ⟨g,i,none⟩=false:=by
 unfold zat at h
 simp [World.frozen?,h]
theorem zat.isInts (h:zat w g xs):zag w (some ⟨g,0,none⟩) xs:=
 .inr ⟨g,0,rfl,fun i hi=>by rw [Kl];exact h.cell i hi⟩
theorem zat.lt (h:zat w g xs):g<w.heap.size:=(Kh.1 h).1
theorem zat.bl {w' :World} (h:zat w g xs) (hb:Below B w w') (hg:g<B):zat w' g xs:=by
 unfold zat;rw [hb.block g hg];exact h
theorem zat.set (h:zat w g xs) (i:Nat) (v:Int):zat (w.setCell ⟨g,i,none⟩ (iV v)) g (xs.set i v):=by
 unfold zat at h|-;simp only [World.setCell,KP]
 simp [h,vals]
theorem zef: (Tryz.prog.info? 3).map (fun i=>(i.zero,i.size,i.bytes))=some (some (iV 0),1,8):=by kernel_rfl
theorem zmh (n:Nat):madeCells (iV 0).cells n= (vals (List.replicate n 0)).toArray:=by
 apply Array.toList_inj.1
 show(madeCells #[iV 0] n).toList=_
 rw [toList_madeCells_one]
 simp [vals]
theorem zes (n:Nat) (w:World) (h:n * 8<=281474976710656):
 (Instr.makeSlice 26 (iV n) (iV n)).run Tryz.prog w=.ok (sV w.heap.size n n) (w.alloc (.cells (vals (List.replicate n 0)).toArray 3)):=by
 obtain ⟨i0,hi,hz0,hz1,hz2⟩:=info_parts zef;have:=run_make (P:=Tryz.prog) w 26 3 i0 (iV 0) Tryz.underlying26 hi hz0 .i64 .i64 n n (by omega) (by omega) (by rw [hz2];omega) (by omega);rw [hz1,kp,Ko,zmh] at this;exact this
theorem zea: (Tryz.prog.info? 3).map (fun i=>i.size)=some 1:=by kernel_rfl
theorem zbu (xs:LI): ∀v∈vals xs,v.oneCell' =true:=by
 intro v hv
 simp [vals] at hv
 obtain ⟨x,_,rfl⟩:=hv;rfl
theorem zmd (a:oA) (n c:Nat) (xs:LI) (w:World) (h:zag w a xs) (hn:xs.length=n):
 (Builtin.copy_ #[26,26] 3 #[sV w.heap.size n n,.slice a n c]).run Tryz.prog (w.alloc (.cells (vals (List.replicate n 0)).toArray 3))=.ok (goInt n) (w.alloc (.cells (vals xs).toArray 3)):=by
 subst hn;have h' :=h.alloc (.cells (vals (List.replicate xs.length 0)).toArray 3)
 rcases h' with rfl| ⟨b,off,rfl,hc⟩
 { exact run_copy_none (P:=Tryz.prog) _ 26 26 3 3 _ a 0 0 0 c Tryz.underlying26 zea rfl }
 {
 have:=run_copy_row (P:=Tryz.prog) (w.alloc (.cells (vals (List.replicate xs.length 0)).toArray 3)) 26 26 3 3 w.heap.size 0 xs.length xs.length ⟨b,off,none⟩ xs.length c _ 3 (vals xs) Tryz.underlying26 zea (kP w _) (by simp [vals]) ?_ (by simp [vals]) (zbu xs)
 {
 rw [this,za3,World.setRow_alloc_new]
 simp [vals] }
 {
 intro j v hv;have hj:j<xs.length:=by
  have:=(kY.1 hv).1
  simpa [vals] using this
 rw [zc9 xs j hj] at hv;cases hv;have hcj:=hc j hj
 by_cases hj0:j=0
 { subst hj0;simpa [Addr.add] using hcj }
 {
 simpa [Addr.add,hj0] using hcj } } }
theorem zab {W' :World} (h:W.heap[k]?=some o) (hb:bZ W W'):W'.heap[k]?=some o:=by
 rw [hb.block k (Kh.1 h).1];exact h
theorem zai (h:W.heap[k]?=some o) (o' :Obj): (W.alloc o').heap[k]?=some o:=zab h ((kS _ _).alloc (kQ _) _)
theorem zaa (h:W.heap[k]?=some (.cells cs t (0,0))) (i:Nat) (v:Value) (hv:cs[i]?=some v):W.cell? ⟨k,i,none⟩=some v:=by
 simp [World.cell?,h,hv]
theorem zad (h:W.heap[k]?=some (.cells cs t (0,0))) (i:Nat):W.frozen? ⟨k,i,none⟩=false:=by
 simp [World.frozen?,h]
theorem zak (h:W.heap[k]?=some o):k<W.heap.size:=(Kh.1 h).1
def okW (n:Int):Bool:=decide (0<=n/\n<=65535)
def okL (xs:LI):Bool:=xs.all okW
theorem okW_neg {v:Int} (h:v<0):okW v=false:=by unfold okW;simp;omega
theorem okW_hi {v:Int} (h: ¬v<=65535):okW v=false:=by unfold okW;simp;omega
theorem okW_in {v:Int} (h0: ¬v<0) (h:v<=65535):okW v=true:=by unfold okW;simp;omega
theorem zpk (v:Int) (w:World):Cq 263 #[iV v] w fun e w' =>e=.returned (.bool (!okW v))/\w' =w:=by
 by_cases h0:v<0
 {
 go_enter Tryz.func263,Tryz.ntmps263;go_wp2;go_ret;exact⟨zan (by rw [okW_neg (by omega)];rfl),rfl⟩ }
 {
 by_cases h1:v<=65535
 {
 have hd:decide (65535<v)=false:=by simp;omega
 go_enter Tryz.func263,Tryz.ntmps263;go_wp2;go_ret;exact⟨zan (by rw [okW_in (by omega) (by omega)];rfl),rfl⟩ }
 {
 go_enter Tryz.func263,Tryz.ntmps263;go_wp2;go_ret;exact⟨zan (by rw [okW_hi (by omega)];rfl),rfl⟩ } }
theorem zqt (v:Int) (w:World):Cq 212 #[iV v] w fun e w' =>e=.returned (.bool (okW v))/\w' =w:=by
 by_cases h0:v<0
 {
 go_enter Tryz.func212,Tryz.ntmps212;go_wp2;go_ret;exact⟨zan (by rw [okW_neg (by omega)]),rfl⟩ }
 {
 by_cases h1:v<=65535
 {
 go_enter Tryz.func212,Tryz.ntmps212;go_wp2;go_ret;exact⟨zan (by rw [okW_in (by omega) (by omega)]),rfl⟩ }
 {
 have hd:decide (v<=65535)=false:=by simp;omega
 go_enter Tryz.func212,Tryz.ntmps212;go_wp2;go_ret;exact⟨zan (by rw [okW_hi (by omega)]),rfl⟩ } }
theorem zku (v:Int) (w:World):Cq 211 #[iV v] w fun e w' =>e=.returned (.bool (!okW v))/\w' =w:=by
 go_enter Tryz.func211,Tryz.ntmps211;go_wp2_with fail;refine(zqt _ _).mono ?_;rintro e w' ⟨rfl,rfl⟩;go_wp2;go_ret;exact⟨rfl,rfl⟩
theorem okL_step (hk:k<xs.length) (h:okL (xs.take k)=true) (hv:okW xs[k]=true):okL (xs.take (k+1))=true:=by
 unfold okL at h|-;rw [kl hk,List.all_append,h]
 simp [hv]
theorem okL_stop (hk:k<xs.length) (hv:okW xs[k]=false):okL xs=false:=by
 unfold okL;rw [List.all_eq_false];exact⟨xs[k],KH hk,by simp [hv]⟩
theorem zjk (g:Nat) (hg:g=263\/g=211) (a:oA) (n c:Nat) (xs:LI) (w:World) (h:zag w a xs) (hn:xs.length=n) (hm:n<=maxLen):
 Cq 259 #[.slice a n c,.func (.func g) #[] #[]] w fun e w' =>(∃q:Int,e=.returned (iV q)/\decide (0<=q)=!okL xs)/\w' =w:=by
 have hp: ∀(v:Int) (w:World),Cq g #[iV v] w fun e w' =>e=.returned (.bool (!okW v))/\w' =w:=by
  rcases hg with rfl|rfl
  { exact zpk }
  { exact zku }
 have HP:=uH hp;clear hp;unfold maxLen at hm;have HN:Hd (xs.length=n):=hn
 rcases hg with rfl|rfl
 all_goals
  go_enter Tryz.func259,Tryz.ntmps259;go_wp2
  go_loop [8] (fun i=>∃k:Nat,k<=n/\i=iV k/\Hd (okL (xs.take k)=true)) (fun i=>n - (intOf i).toNat)
  case atStart=>exact⟨0,KG _,rfl,rfl⟩
  case round=>
   obtain ⟨k,hk,rfl,ht⟩:=hrel
   by_cases hlt:k<n
   {
   rcases h with rfl| ⟨b0,o0,rfl,hc0⟩
   { simp at hn;omega }
   have hkx:k<xs.length:=by omega
   have e0:=hc0 k hkx;clear hn hc0;go_wp2_with fail;refine(zae HP _ _).mono ?_;rintro e w' ⟨rfl,rfl⟩;cases hv:okW xs[k]
   {
   have HV:Hd (okW xs[k]=false):=hv;clear hv;go_wp2;go_ret;exact⟨⟨k,rfl,by rw [okL_stop hkx HV.o];simp⟩,rfl⟩ }
   {
   have HV:Hd (okW xs[k]=true):=hv;clear hv;go_wp2
   go_round
   case rel=>exact⟨k+1,by omega,by go_num,okL_step hkx ht.o HV.o⟩
   case measure=>simp [intOf];omega } }
   {
   go_wp2;go_ret;have hx:=ht.o;rw [kh (by omega)] at hx;exact⟨⟨-1,rfl,by rw [hx];rfl⟩,rfl⟩ }
theorem zhc (g:Nat) (hg:g=263\/g=211) (a:oA) (n c:Nat) (xs:LI) (w:World) (h:zag w a xs) (hn:xs.length=n) (hm:n<=maxLen):
 Cq 210 #[.slice a n c,.func (.func g) #[] #[]] w fun e w' =>e=.returned (.bool (!okL xs))/\w' =w:=by
 have hc:=uH (zjk g hg a n c xs w h hn hm);clear hn
 rcases hg with rfl|rfl
 all_goals
  go_enter Tryz.func210,Tryz.ntmps210;go_wp2_with fail;refine(zae hc).mono ?_;rintro e w' ⟨⟨q,rfl,hq⟩,rfl⟩;go_wp2;go_ret;exact⟨rfl,rfl⟩
theorem zc8 (a:oA) (n c:Nat) (xs:LI) (w:World) (h:zag w a xs) (hn:xs.length=n) (hm:n<=maxLen):
 Cq 217 #[.slice a n c] w fun e w' =>e=.returned (.bool (okL xs))/\w' =w:=by
 have hc:=uH (zhc 263 (.inl rfl) a n c xs w h hn hm);clear hn;go_enter Tryz.func217,Tryz.ntmps217;go_wp2_with fail;refine(zae hc).mono ?_;rintro e w' ⟨rfl,rfl⟩;go_wp2;go_ret;exact⟨zan (by simp),rfl⟩
abbrev aZ:Array Value:=#[nV,nV,nV,iV 0,.bool false,iV 0,nV,iV 0,iV 0,nV,nV,nV,nV,nV,iV 0]
abbrev aY:Array Value:=#[nV,iV 0,.bool false,iV 0,nV,iV 0,iV 0,nV,nV]
abbrev aX:Array Value:=#[iV 0,iV 0,.bool false,.bool false,.bool false]
abbrev aW:Array Value:=#[iV 0,iV 0,iV 0,nV,nV]
theorem cl15 {v0 v1 v2 v3 v4 v5 v6 v7 v8 v9 v10 v11 v12 v13 v14:Value} (h:W.heap[B]?=some (.cells #[v0,v1,v2,v3,v4,v5,v6,v7,v8,v9,v10,v11,v12,v13,v14] t (0,0))):ce W B 0=some v0/\ce W B 1=some v1/\ce W B 2=some v2/\ce W B 3=some v3/\ce W B 4=some v4/\ce W B 5=some v5/\ce W B 6=some v6/\ce W B 7=some v7/\ce W B 8=some v8/\ce W B 9=some v9/\ce W B 10=some v10/\ce W B 11=some v11/\ce W B 12=some v12/\ce W B 13=some v13/\ce W B 14=some v14:=⟨zaa h 0 _ rfl,zaa h 1 _ rfl,zaa h 2 _ rfl,zaa h 3 _ rfl,zaa h 4 _ rfl,zaa h 5 _ rfl,zaa h 6 _ rfl,zaa h 7 _ rfl,zaa h 8 _ rfl,zaa h 9 _ rfl,zaa h 10 _ rfl,zaa h 11 _ rfl,zaa h 12 _ rfl,zaa h 13 _ rfl,zaa h 14 _ rfl⟩
theorem fr15 (h:W.heap[B]?=some (.cells cs t (0,0))):cZ W B 0=false/\cZ W B 1=false/\cZ W B 2=false/\cZ W B 3=false/\cZ W B 4=false/\cZ W B 5=false/\cZ W B 6=false/\cZ W B 7=false/\cZ W B 8=false/\cZ W B 9=false/\cZ W B 10=false/\cZ W B 11=false/\cZ W B 12=false/\cZ W B 13=false/\cZ W B 14=false:=⟨zad h 0,zad h 1,zad h 2,zad h 3,zad h 4,zad h 5,zad h 6,zad h 7,zad h 8,zad h 9,zad h 10,zad h 11,zad h 12,zad h 13,zad h 14⟩
theorem cl10 {v0 v1 v2 v3 v4 v5 v6 v7 v8 v9:Value} (h:W.heap[B]?=some (.cells #[v0,v1,v2,v3,v4,v5,v6,v7,v8,v9] t (0,0))):ce W B 0=some v0/\ce W B 1=some v1/\ce W B 2=some v2/\ce W B 3=some v3/\ce W B 4=some v4/\ce W B 5=some v5/\ce W B 6=some v6/\ce W B 7=some v7/\ce W B 8=some v8/\ce W B 9=some v9:=⟨zaa h 0 _ rfl,zaa h 1 _ rfl,zaa h 2 _ rfl,zaa h 3 _ rfl,zaa h 4 _ rfl,zaa h 5 _ rfl,zaa h 6 _ rfl,zaa h 7 _ rfl,zaa h 8 _ rfl,zaa h 9 _ rfl⟩
theorem fr10 (h:W.heap[B]?=some (.cells cs t (0,0))):cZ W B 0=false/\cZ W B 1=false/\cZ W B 2=false/\cZ W B 3=false/\cZ W B 4=false/\cZ W B 5=false/\cZ W B 6=false/\cZ W B 7=false/\cZ W B 8=false/\cZ W B 9=false:=⟨zad h 0,zad h 1,zad h 2,zad h 3,zad h 4,zad h 5,zad h 6,zad h 7,zad h 8,zad h 9⟩
theorem cl9 {v0 v1 v2 v3 v4 v5 v6 v7 v8:Value} (h:W.heap[B]?=some (.cells #[v0,v1,v2,v3,v4,v5,v6,v7,v8] t (0,0))):ce W B 0=some v0/\ce W B 1=some v1/\ce W B 2=some v2/\ce W B 3=some v3/\ce W B 4=some v4/\ce W B 5=some v5/\ce W B 6=some v6/\ce W B 7=some v7/\ce W B 8=some v8:=⟨zaa h 0 _ rfl,zaa h 1 _ rfl,zaa h 2 _ rfl,zaa h 3 _ rfl,zaa h 4 _ rfl,zaa h 5 _ rfl,zaa h 6 _ rfl,zaa h 7 _ rfl,zaa h 8 _ rfl⟩
theorem fr9 (h:W.heap[B]?=some (.cells cs t (0,0))):cZ W B 0=false/\cZ W B 1=false/\cZ W B 2=false/\cZ W B 3=false/\cZ W B 4=false/\cZ W B 5=false/\cZ W B 6=false/\cZ W B 7=false/\cZ W B 8=false:=⟨zad h 0,zad h 1,zad h 2,zad h 3,zad h 4,zad h 5,zad h 6,zad h 7,zad h 8⟩
theorem cl7 {v0 v1 v2 v3 v4 v5 v6:Value} (h:W.heap[B]?=some (.cells #[v0,v1,v2,v3,v4,v5,v6] t (0,0))):ce W B 0=some v0/\ce W B 1=some v1/\ce W B 2=some v2/\ce W B 3=some v3/\ce W B 4=some v4/\ce W B 5=some v5/\ce W B 6=some v6:=⟨zaa h 0 _ rfl,zaa h 1 _ rfl,zaa h 2 _ rfl,zaa h 3 _ rfl,zaa h 4 _ rfl,zaa h 5 _ rfl,zaa h 6 _ rfl⟩
theorem fr7 (h:W.heap[B]?=some (.cells cs t (0,0))):cZ W B 0=false/\cZ W B 1=false/\cZ W B 2=false/\cZ W B 3=false/\cZ W B 4=false/\cZ W B 5=false/\cZ W B 6=false:=⟨zad h 0,zad h 1,zad h 2,zad h 3,zad h 4,zad h 5,zad h 6⟩
theorem cl5 {v0 v1 v2 v3 v4:Value} (h:W.heap[B]?=some (.cells #[v0,v1,v2,v3,v4] t (0,0))):ce W B 0=some v0/\ce W B 1=some v1/\ce W B 2=some v2/\ce W B 3=some v3/\ce W B 4=some v4:=⟨zaa h 0 _ rfl,zaa h 1 _ rfl,zaa h 2 _ rfl,zaa h 3 _ rfl,zaa h 4 _ rfl⟩
theorem fr5 (h:W.heap[B]?=some (.cells cs t (0,0))):cZ W B 0=false/\cZ W B 1=false/\cZ W B 2=false/\cZ W B 3=false/\cZ W B 4=false:=⟨zad h 0,zad h 1,zad h 2,zad h 3,zad h 4⟩
theorem zc5 {base:Nat} {e:TypeId} {size:Nat} {xs:LV} (h:w.ownsRow base e size v n xs): ∀k,v.ownBlock=some k->base<=k:=by
 intro k hk;obtain ⟨_,⟨hv,_⟩| ⟨g,cap,cur,hv,hg,_⟩⟩:=h
 { rw [hv] at hk;cases hk }
 {
 rw [hv] at hk;have:g=k:=by simpa [Value.ownBlock] using hk
 omega }
theorem zba {w' :World} {base:Nat} {e:TypeId} {size:Nat} {xs:LV} (h:w.ownsRow base e size v n xs) (hb:bZ w w'):w'.ownsRow base e size v n xs:=by
 obtain ⟨h1,h2⟩:=h;refine⟨h1, ?_⟩
 rcases h2 with h2| ⟨g,cap,cur,hv,hg,hh,hr⟩
 { exact .inl h2 }
 {
 exact .inr ⟨g,cap,cur,hv,hg,zab hh hb,hr⟩ }
theorem zg5 (w:World) (v:Value) (t:TypeId): ∀j u, [v][j]?=some u->(w.alloc (.cells #[v] t)).cell? ((⟨w.heap.size,0,none⟩:Addr).add j)=some u:=by
 intro j u h;cases j with
 |zero=>simp at h;subst h;simp [Addr.add]
 |succ j=>simp at h
theorem zl3 (a0 a1:oA) (c0 c1:Nat) (xs ys:LI) (w:World) (h0:zag w a0 xs) (h1:zag w a1 ys) (hx:xs.length<=maxLen) (hy:ys.length<=maxLen):
 Cq 30 #[.slice a0 xs.length c0,.slice a1 ys.length c1] w fun e w' =>e=.returned (.bool (eqL xs ys))/\∃n,w' =w.drewN n:=by
 unfold maxLen at hx hy
 by_cases hl:xs.length=ys.length
 {
 have hbl: ((xs.length:Int) != (ys.length:Int))=false:=by simp [hl]
 have HL:Hd (xs.length=ys.length):=hl;clear hl;go_enter Tryz.func30,Tryz.ntmps30;go_wp2
 go_loopw [13] (fun i wr=>∃k:Nat,k<=xs.length/\i=iV k/\xs.take k=ys.take k/\∃n,wr=w.drewN n) (fun i _=>xs.length - (intOf i).toNat)
 case atStart=>exact⟨0,KG _,rfl,rfl,0,rfl⟩
 case round=>
  obtain ⟨k,hk,rfl,ht,n,rfl⟩:=hrel;have HT:Hd (xs.take k=ys.take k):=ht;clear ht
  by_cases hlt:k<xs.length
  {
  have hlt2:k<ys.length:=by have:=HL.o;omega
  rcases h0 with rfl| ⟨b0,o0,rfl,hc0⟩
  { simp at hlt }
  rcases h1 with rfl| ⟨b1,o1,rfl,hc1⟩
  { simp at hlt2 }
  have e0:=hc0 k hlt;have e1:=hc1 k hlt2;clear hc0 hc1
  by_cases he:xs[k]=ys[k]
  {
  have hbe: (xs[k] !=ys[k])=false:=by simp [he]
  have HE:Hd (xs[k]=ys[k]):=he;clear he;go_wp2;go_quiet (fail);go_wp2
  go_roundw
  case rel=>exact⟨k+1,by omega,by go_num,take_step hlt hlt2 HT.o HE.o,n+nq,rfl⟩
  case measure=>simp [intOf];omega }
  {
  have hbe: (xs[k] !=ys[k])=true:=by simpa using he
  go_wp2;go_quiet (fail);go_wp2;go_ret;exact⟨zan (eqL_ne hlt hlt2 he).symm,n+nq,by simp⟩ } }
  {
  go_wp2;go_ret;exact⟨zan (eqL_take HL.o (by omega) HT.o).symm,n,rfl⟩ } }
 {
 have hbl: ((xs.length:Int) != (ys.length:Int))=true:=by simp;omega
 go_enter Tryz.func30,Tryz.ntmps30;go_wp2;go_ret;exact⟨zan (eqL_len hl).symm,0,rfl⟩ }
theorem zfj (a0 a1:oA) (n0 n1 c0 c1:Nat) (xs ys:LI) (q:Bool) (w:World) (h0:zag w a0 xs) (h1:zag w a1 ys) (e0:xs.length=n0) (e1:ys.length=n1) (hq:eqL xs ys=q) (hx:n0<=maxLen) (hy:n1<=maxLen):
 Cq 30 #[.slice a0 n0 c0,.slice a1 n1 c1] w fun e w' =>e=.returned (.bool q)/\∃n,w' =w.drewN n:=by
 subst e0 e1 hq;exact zl3 a0 a1 c0 c1 xs ys w h0 h1 hx hy
theorem zm2 (a:oA) (n c:Nat) (xs:LI) (w:World) (h:zag w a xs) (hn:xs.length=n) (hsz:n * 8<=140737488351232):
 Cq 301 #[.slice a n c] w fun e w' =>e=.returned (sV w.heap.size n n)/\zat w' w.heap.size xs/\bZ w w' :=by
 have hmk:=zes n w (by omega);have hcp:=zmd a n c xs w h hn;clear hn;go_enter Tryz.func301,Tryz.ntmps301;go_wp2;go_ret;refine⟨rfl, ?_,(kS _ _).alloc (kQ _) _⟩;exact kP w _
def fitB (L:Nat) (at' n:Int):Bool:=decide (0<=at' /\0<=n/\n<=(L:Int)- at')
theorem zqv (a:oA) (L c:Nat) (fuel at' n:Int) (w:World) (hL:L<=maxLen) (hn: -9223372036854775808<=n/\n<=9223372036854775807) (ha: -9223372036854775808<=at' /\at' <=9223372036854775807):
 Cq 283 #[.agg #[.slice a L c,iV fuel],iV at',iV n] w fun e w' =>e=.returned (.bool (fitB L at' n))/\bZ w w' :=by
 unfold maxLen at hL;have hb:bZ w (w.alloc (.cells #[.slice a L c,iV fuel] 28)):=(kS _ _).alloc (kQ _) _
 by_cases h0:0<=at'
 {
 by_cases h1:0<=n
 {
 by_cases h2:n<=(L:Int)- at'
 {
 go_enter Tryz.func283,Tryz.ntmps283;go_wp2;go_ret;exact⟨zan (by unfold fitB;simp;omega),hb⟩ }
 {
 have hd:decide (n<=(L:Int)- at')=false:=by simp;omega
 go_enter Tryz.func283,Tryz.ntmps283;go_wp2;go_ret;exact⟨zan (by unfold fitB;simp;omega),hb⟩ } }
 {
 go_enter Tryz.func283,Tryz.ntmps283;go_wp2;go_ret;exact⟨zan (by unfold fitB;simp;omega),hb⟩ } }
 {
 go_enter Tryz.func283,Tryz.ntmps283;go_wp2;go_ret;exact⟨zan (by unfold fitB;simp;omega),hb⟩ }
def formB (L:Nat):Bool:=decide (L % 32=0/\0<L/\L<=192)
def zc0 (xs:LI) (fuel:Int):Bool:=decide (-1<=fuel/\fuel<=100000)&&okL xs
def chk (xs:LI) (fuel:Int):Int:=if formB xs.length=false then 4 else if zc0 xs fuel=false then 3 else 0
theorem zi8 (h:formB xs.length=false):chk xs fuel=4:=by unfold chk;rw [KK h]
theorem zhk (h:formB xs.length=true) (h2:zc0 xs fuel=false):chk xs fuel=3:=by unfold chk;rw [KJ (by simp [h]),KK h2]
theorem zwq (h:formB xs.length=true) (h2:zc0 xs fuel=true):chk xs fuel=0:=by unfold chk;rw [KJ (by simp [h]),KJ (by simp [h2])]
theorem zao {k:IntKind} {a b:Int} (h:a=b):Ending.returned (.int k a)=.returned (.int k b):=by rw [h]
theorem zf5 (a:oA) (n c:Nat) (xs:LI) (fuel:Int) (w:World) (h:zag w a xs) (hn:xs.length=n) (hm:n<=maxLen):
 Cq 235 #[.agg #[.slice a n c,iV fuel]] w fun e w' =>e=.returned (iV (chk xs fuel))/\bZ w w' :=by
 have hal:=fun W (h:zag W a xs)=>zc8 a n c xs W h hn hm
 have HA:=uH hal;clear hal;have h1:=h.alloc (.cells #[.slice a n c,iV fuel] 28);unfold maxLen at hm;have hb:bZ w (w.alloc (.cells #[.slice a n c,iV fuel] 28)):=(kS _ _).alloc (kQ _) _;have HN:=uH hn;clear hn
 by_cases c1:n=0
 {
 subst c1;go_enter Tryz.func235,Tryz.ntmps235;go_wp2;go_ret;exact⟨zao (zi8 (by rw [HN.o];rfl)).symm,hb⟩ }
 have c1' : ((n:Int)==0)=false:=by simp;omega
 by_cases c2:n % 32=0
 rotate_left
 {
 have c2' : ((n:Int)% 32 !=0)=true:=by simp;omega
 go_enter Tryz.func235,Tryz.ntmps235;go_wp2;go_ret;exact⟨zao (zi8 (by rw [HN.o];unfold formB;simp;omega)).symm,hb⟩ }
 have c2' : ((n:Int)% 32 !=0)=false:=by simp;omega
 by_cases c3:n<=192
 rotate_left
 {
 go_enter Tryz.func235,Tryz.ntmps235;go_wp2;go_ret;exact⟨zao (zi8 (by rw [HN.o];unfold formB;simp;omega)).symm,hb⟩ }
 have hform:Hd (formB xs.length=true):=by rw [HN.o];exact decide_eq_true ⟨c2,by omega,c3⟩
 have c3' :decide (192< (n:Int))=false:=by simp;omega
 clear c2 c1
 by_cases c4:fuel< -1
 {
 have hr:Hd (zc0 xs fuel=false):=by show _=_;unfold zc0;simp;omega
 go_enter Tryz.func235,Tryz.ntmps235;go_wp2;go_ret;exact⟨zao (zhk hform.o hr.o).symm,hb⟩ }
 have c4' :decide (fuel< -1)=false:=by simp;omega
 by_cases c5:fuel<=100000
 rotate_left
 {
 have hr:Hd (zc0 xs fuel=false):=by show _=_;unfold zc0;simp;omega
 go_enter Tryz.func235,Tryz.ntmps235;go_wp2;go_ret;exact⟨zao (zhk hform.o hr.o).symm,hb⟩ }
 have c5' :decide (100000<fuel)=false:=by simp;omega
 cases hok:okL xs
 {
 have hr:Hd (zc0 xs fuel=false):=by show _=_;unfold zc0;simp [hok]
 have HO:=uH hok;clear hok;go_enter Tryz.func235,Tryz.ntmps235;go_wp2_with fail;refine(zae HA _ h1).mono ?_;rintro e w' ⟨rfl,rfl⟩;rw [HO.o];go_wp2;go_ret;exact⟨zao (zhk hform.o hr.o).symm,hb⟩ }
 {
 have hr:Hd (zc0 xs fuel=true):=by show _=_;unfold zc0;simp [hok];omega
 have HO:=uH hok;clear hok;go_enter Tryz.func235,Tryz.ntmps235;go_wp2_with fail;refine(zae HA _ h1).mono ?_;rintro e w' ⟨rfl,rfl⟩;rw [HO.o];go_wp2;go_ret;exact⟨zao (zwq hform.o hr.o).symm,hb⟩ }
theorem znq (a:oA) (n c:Nat) (xs:LI) (fuel:Int) (w:World) (h:zag w a xs) (hn:xs.length=n) (hsz:n * 8<=140737488351232):
 Cq 280 #[.agg #[.slice a n c,iV fuel]] w fun e w' =>∃g,w.heap.size<=g/\e=.returned (.agg #[sV g n n,iV fuel])/\zat w' g xs/\bZ w w' :=by
 have htw:=fun W (h:zag W a xs)=>zm2 a n c xs W h hn hsz
 have HT:=uH htw;clear htw;have h1:=(h.alloc (.cells #[.slice a n c,iV fuel] 28)).alloc (.cells #[nV,iV 0] 28);go_enter Tryz.func280,Tryz.ntmps280;go_wp2_with fail
 go_region_held3 (fun w' =>w'.cell? ⟨w.heap.size,0,none⟩=some (.slice a n c)/\w'.cell? ⟨w.heap.size,1,none⟩=some (iV fuel)) (first|exact⟨by assumption,by assumption⟩|go_keep)
  ((go_at_call 301;refine(zae HT _ ?_).mono ?_;exact h1;rintro e w1 ⟨rfl,ho1,hb1⟩;have q0:w1.cell? ⟨w.heap.size,0,none⟩=some (.slice a n c):=(by rw [hb1.cell (by simp;omega)];simp);have q1:w1.cell? ⟨w.heap.size,1,none⟩=some (iV fuel):=(by rw [hb1.cell (by simp;omega)];simp);have q2:w1.cell? ⟨w.heap.size+1,0,none⟩=some (nV):=(by rw [hb1.cell (by simp)];simp);have q3:w1.cell? ⟨w.heap.size+1,1,none⟩=some (iV 0):=(by rw [hb1.cell (by simp)];simp);have q4:w1.frozen? ⟨w.heap.size+1,0,none⟩=false:=(by rw [hb1.frozen (by simp)];simp);have q5:w1.frozen? ⟨w.heap.size+1,1,none⟩=false:=(by rw [hb1.frozen (by simp)];simp)))
 go_wp2;refine kT (v:=.agg #[sV (w.heap.size+1+1) n n,iV fuel]) (by simp [results,Tryz.results280,go_sem,q2,q3]) rfl ⟨w.heap.size+1+1,by omega,rfl, ?_, ?_⟩
 {
 simp at ho1
 unfold zat;rw [ki _ _ _ _ (by simp),ki _ _ _ _ (by simp)];exact ho1 }
 {
 refine Below.setCell (Below.setCell ?_ (by simp) _) (by simp) _;have hb0:bZ w ((w.alloc (.cells #[.slice a n c,iV fuel] 28)).alloc (.cells #[nV,iV 0] 28)):=((kS _ _).alloc (kQ _) _).alloc (by simp) _;exact hb0.drew.trans (hb1.mono (by simp;omega)) }
end Go.Proofs.YthmekfcgdfckaaaGreatDoor
