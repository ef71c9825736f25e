/- Facts. -/
import Derived.Test.YthmekfcgdfckaaaGreatDoorWz14
set_option maxRecDepth 1000000
set_option maxHeartbeats 0
namespace Go.Proofs.YthmekfcgdfckaaaGreatDoor
open Go.RowKit
variable {x:Un} {n name:Int} {a:oA} {cur cs:Array Value} {vs:LV} {w W:World} {F t k:Nat} {v:Value} {ss:LB} {xs ws image:LI} {us:List Un}
def fillX (x:Int) (L j:Nat):LI:=List.replicate j x++List.replicate (L - j) 0
theorem zh5 {x:Int} {L j:Nat} (h:j<=L): (fillX x L j).length=L:=by simp [fillX];omega
theorem fillX_end (x:Int) (L:Nat):fillX x L L=List.replicate L x:=by simp [fillX]
theorem mul_hi: ∀Y:Nat,Y<64->IntKind.u64.wrap (IntKind.u64.wrap (IntKind.u64.wrap (IntKind.u64.wrap (bits .and .u64 1 4294967295 * bits .and .u64 (Y:Int) 4294967295)/ 4294967296)/ 4294967296)+IntKind.u64.wrap (bits .and .u64 (IntKind.u64.wrap (IntKind.u64.wrap (bits .and .u64 1 4294967295 * bits .and .u64 (Y:Int) 4294967295)/ 4294967296)) 4294967295+IntKind.u64.wrap (bits .and .u64 1 4294967295 *((Y:Int)/ 4294967296)))/ 4294967296)=0:=by decide+kernel
theorem mul_oneX (Y:Nat) (h:Y<64) (w:World):
 Cq 166 #[.int .u64 1,.int .u64 Y] w fun e w' =>e=.returned (.tuple #[.int .u64 0,.int .u64 Y])/\w' =w:=by
 go_enter Tryz.func166,Tryz.ntmps166;go_wp2;go_ret2;exact⟨congrArg (fun z=>Ending.returned (.tuple #[.int .u64 z,.int .u64 Y])) (mul_hi Y h),rfl⟩
theorem zo8 (x:Int) (a:oA) (c L:Nat) (w:World) (h:zag w a [x]) (hL:1<=L):
 (Builtin.copy_ #[26,26] 3 #[sV w.heap.size L L,.slice a 1 c]).run Tryz.prog (w.alloc (.cells (vals (List.replicate L 0)).toArray 3))=.ok (goInt 1) (w.alloc (.cells (vals (fillX x L 1)).toArray 3)):=by
 have h' :=h.alloc (.cells (vals (List.replicate L 0)).toArray 3)
 rcases h' with h0| ⟨b,off,rfl,hc⟩
 { cases h0 }
 {
 have:=run_copy_row (P:=Tryz.prog) (w.alloc (.cells (vals (List.replicate L 0)).toArray 3)) 26 26 3 3 w.heap.size 0 L L ⟨b,off,none⟩ 1 c _ 3 (vals [x]) Tryz.underlying26 zea (kP w _) (by simp only [za3,KX,List.length_nil];show 1=Nat.min 1 L;exact(kK hL).symm) ?_ (by simp [vals];omega) (zbu _)
 {
 rw [this,za3,World.setRow_alloc_new]
 congr 3
 obtain ⟨r,rfl⟩: ∃r,L=r+1:=⟨L - 1,by omega⟩
 simp [vals,fillX] }
 {
 intro j v hv;have hj:j=0:=by
  have:=(kY.1 hv).1
  simp [vals] at this;omega
 subst hj
 simp [vals] at hv
 subst hv
 simpa [Addr.add] using hc 0 (by simp) } }
theorem znf {x:Int} {L n m:Nat} (_h:n+m<=L):splice (vals (fillX x L n)) n (vals (List.replicate m x))=vals (fillX x L (n+m)):=by
 unfold splice fillX vals
 simp
 rw [<-KW,List.replicate_append_replicate]
 congr 1
 {
 rw [List.drop_append]
 simp
 omega }
theorem zpe (x:Int) (a:oA) (c L:Nat) (h1:1<=L) (hY:L<64) (w:World) (h:zag w a [x]):
 Cq 102 #[.slice a 1 c,iV (L:Int)] w fun e w' =>∃g,e=.returned (sV g L L)/\w.heap.size<=g/\zat w' g (List.replicate L x)/\bZ w w' :=by
 have HM:=uH (fun W=>mul_oneX L hY W);have hmk:=zes L w (by omega);have hcp:=zo8 x a c L w h (by omega);have l1:1<=L:=by omega
 have l2:L<=192:=by omega
 clear hY h1;go_enter Tryz.func102,Tryz.ntmps102;go_wp2_with fail;refine(zae HM _).mono ?_;rintro e wv ⟨rfl,rfl⟩;go_wp2_with fail
 go_loopw [8] (fun i wr=>∃n:Nat,1<=n/\n<=L/\i=iV n/\zat wr wv.heap.size (fillX x L n)/\bZ wv wr) (fun i _=>L - (intOf i).toNat)
 case atStart=>exact⟨1,by omega,by omega,rfl,kP _ _,bA1⟩
 case round=>
  obtain ⟨n,n1,n2,rfl,how,hbe⟩:=hrel
  by_cases hlt:n<L
  {
  obtain ⟨m,hm⟩: ∃m,m=min n (L - n):=⟨_,rfl⟩;have m1:n+m<=L:=by omega
  have m2:1<=m:=by omega
  have hn: (vals (List.replicate m x)).length=Nat.min n (L - n):=by rw [za3,List.length_replicate,hm]
  have hfit:n+(vals (List.replicate m x)).length<=(vals (fillX x L n)).length:=by rw [za3,za3,zh5 (x:=x) n2,List.length_replicate];exact m1
  have hsrc: ∀j v,(vals (List.replicate m x))[j]?=some v->wr.drew.cell? ((⟨wv.heap.size,0,none⟩:Addr).add j)=some v:=by
   intro j v hv;have hj:j<m:=by
    have:=(kY.1 hv).1
    simpa [vals] using this
   have hc:=how.cell j (by rw [zh5 (x:=x) n2];omega);have e: (fillX x L n).getD j 0=x:=by unfold fillX;simp [List.getElem?_append,show j<n by omega]
   rw [e] at hc
   simp [vals,hj] at hv
   subst hv
   show wr.cell? _=_
   by_cases hj0:j=0
   { subst hj0;simpa [Addr.add] using hc }
   { simpa [Addr.add,hj0] using hc }
  have HM:=uH hm;have HNm:=uH hn;have HF:=uH hfit;have HS:=uH hsrc;have HW:=uH how;have c1: ¬L=n:=by omega
  have c2: (n:Int)<=(L:Int):=by omega
  have c3: (0:Int)<=(n:Int):=by omega
  clear hm hn hfit hsrc how;go_wp2_with fail
  go_region_held3 (fun _=>True) (trivial)
   ((refine step_copy_splice (by rfl) (.tmp 41) (.tmp 44) 26 26 (by rfl) 3 Tryz.underlying26 zea (some ⟨wv.heap.size,n,none⟩) (some ⟨wv.heap.size,0,none⟩) (L - n) (L - n) n L (by rfl) (by rfl) wv.heap.size n (vals (fillX x L n)) 3 HW.o (vals (List.replicate m x)) HNm.o (fun _=>⟨rfl,_,rfl,HS.o⟩) HF.o (zbu _) wv.heap.size wv hbe.drew (kQ _) ?_;intro w4 hg4 hb4))
  have ev:IntKind.i64.wrap ((n:Int)+((vals (List.replicate m x)).length:Nat))= ((n+m:Nat):Int):=by
   rw [za3,List.length_replicate,kD];omega
  have HE:=uH ev;have how4:zat w4 wv.heap.size (fillX x L (n+m)):=by
   unfold zat;rw [<-znf m1];exact hg4.out
  clear ev hg4;go_wp2
  go_roundw
  case rel=>exact⟨n+m,by omega,by omega,congrArg (iV) HE.o,how4,hb4⟩
  case measure=>
   have e:=HE.o;simp only [intOf]
   first| (rw [e];omega)|omega }
  {
  obtain rfl:n=L:=by omega
  go_wp2;go_ret;exact⟨_,rfl,kQ _,by rw [fillX_end] at how;exact how,hbe⟩ }
def imgF (v k:Nat):LI:=List.replicate (3+9 * k+v) (100 *(v:Int)+k)
def nmF (ss:LB) (s:ByteArray):Nat:=if nameN ss s≠0 then nameN ss s else ss.length+1
def adF (ss:LB) (s:ByteArray):LB:=if nameN ss s≠0 then ss else ss++ [s]
structure Fi where
 ss:LB
 ts:List T3
 ims:LL
def inP (v k:Nat) (s:Fi):Fi:=⟨adF s.ss (bs (imgT (imgF v k))),s.ts++ [((k:Int),(nmF s.ss (bs (imgT (imgF v k))):Int),((3+9 * k+v:Nat):Int))],s.ims++ [imgF v k]⟩
def inF (ss:LB) (v:Nat):Nat->Fi
 |0=>⟨ss, [], []⟩
 |k+1=>inP v k (inF ss v k)
structure Fo where
 ss:LB
 sg:List S2
 fst:LL
 offs:List Of
def ofF (v:Nat) (u:Int) (i:Fi):Of:=⟨[], [],(v:Int),u,i.ts, [3,5],i.ims⟩
def outQ (v:Nat) (u:Int) (s:Fo) (i:Fi) (t:ByteArray):Fo:=
 ⟨adF i.ss t,(if v=3 then s.sg else s.sg++ [(3,(nmF i.ss t:Int))])++ [(5,(nmF i.ss t:Int))],s.fst,s.offs++ [ofF v u i]⟩
def outP (u:Int) (v:Nat) (s:Fo) (i:Fi):Fo:=if v=0 then⟨i.ss,s.sg,i.ims,s.offs⟩ else outQ v u s i (bs (relT v u i.ts))
def outF (units:Nat) (u:Int):Nat->Fo
 |0=>⟨[], [], [], []⟩
 |v+1=>outP u v (outF units u v) (inF (outF units u v).ss v units)
def rtF:Rt:=⟨1, [3,4,5],2⟩
def facO (units:Nat) (u:Int):List Of:=(outF units u 4).offs
def AllC (k:Nat) (p:Nat->Value->Prop) (cur:Array Value):Prop:=∀i u,cur[i]?=some u->p (i % k) u
section
variable {k:Nat} {p:Nat->Value->Prop}
theorem AllC.app {a b:Array Value} (ha:AllC k p a) (hb:AllC k p b) (h: ∃n,a.size=n * k):AllC k p (a++b):=by
 intro i u hu;obtain ⟨n,hn⟩:=h
 by_cases hi:i<a.size
 {
 rw [Array.getElem?_append_left hi] at hu;exact ha i u hu }
 {
 rw [Array.getElem?_append_right (by omega)] at hu;have:=hb _ u hu;have e: (i - a.size)% k=i % k:=by rw [hn,Nat.mul_comm];exact Nat.sub_mul_mod (by rw [Nat.mul_comm,<-hn];omega)
 rwa [e] at this }
theorem AllC.zeros {z:Array Value} (hk:z.size=k) (h0:0<k) (h:AllC k p z) (n:Nat):AllC k p (Builtin.zeroCells z n):=by
 intro i u hu;unfold Builtin.zeroCells at hu;simp only [Array.getElem?_map,Array.getElem?_range] at hu
 split at hu
 {
 simp only [Option.map_some,Option.some.injEq] at hu;rw [hk] at hu;have hm:=Nat.mod_lt i h0;have:=h (i % k) u (by rw [<-hu];simp [hk,hm])
 rwa [Nat.mod_mod] at this }
 { cases hu }
theorem AllC.list {n:Nat} (h:AllC k p cur) (hv:cur.toList.take n=vs):AllC k p vs.toArray:=by
 intro i u hu;rw [KN,<-hv,List.getElem?_take] at hu
 split at hu
 { exact h i u (by simpa using hu) }
 { cases hu }
theorem zqx {P:Program} (w:World) (t ty e:TypeId) (base:Nat) (i:TypeInfo) (z:Value) (size bytes:Nat) (ht:P.underlying t=some (.slice e)) (hi:P.info? e=some i) (hz:i.zero=some z)
 (hsize:i.size=size) (hby:i.bytes=bytes) (hzs:z.cells.size=size) (hsz:0<size) (v:Value) (n:Nat) (xs:LV) (hown:w.ownsRow base e size v n xs)
 (ad:Addr) (m c:Nat) (news:LV) (hl:news.length=m * size) (hnews: ∀j u,news[j]?=some u->w.cell? (ad.add j)=some u) (h1: ∀u∈news,u.oneCell' =true)
 (hm:0<m) (h63:n+m<=maxLen) (hbytes: (n+m)* bytes<=140737488355328)
 (hp: ∀g cur,v.ownBlock=some g->w.heap[g]?=some (.cells cur e (0,0))->AllC size p cur) (hpz:AllC size p z.cells) (hpn:AllC size p news.toArray)
 {v' :Value} {w' :World} (hr: (Builtin.append_ #[t,t] ty #[v,.slice (some ad) m c]).run P w=.ok v' w'): ∀g cur,v'.ownBlock=some g->w'.heap[g]?=some (.cells cur e (0,0))->AllC size p cur:=by
 subst hsize;subst hby
 have hsmall:n+m<=9223372036854775807:=by simp only [maxLen] at h63;omega
 rcases hown.2 with ⟨rfl,rfl⟩| ⟨g,cap,cur,rfl,hbg,hg,hnc,hcm,hcs,htake⟩
 {
 rw [run_append_nil (P:=P) w t ty e i z ht hi hz ad m c news hl hnews (by omega) (by omega) (by have hb:=hbytes;simp only [Kl] at hb;omega)] at hr;cases hr;intro g cur hv hh;cases hv;have:=kP w.drew (.cells (news.toArray++Builtin.zeroCells z.cells (grownCap w m 0 e - m)) e);rw [show w.drew.heap.size=w.heap.size from rfl] at this;rw [this] at hh;cases hh;exact hpn.app (hpz.zeros hzs hsz _) ⟨m,by simpa using hl⟩ }
 {
 have hpc:=hp g cur rfl hg;have hxs:AllC i.size p xs.toArray:=hpc.list htake
 by_cases hroom:n+m<=cap
 {
 have hfit:n * i.size+news.length<=cur.size:=by rw [hl,hcs,<-Nat.add_mul];exact Kk _ hroom
 rw [run_append_room (P:=P) w t ty e i ht hi g n cap cur hg ad m c news hl hnews h1 hroom hfit] at hr;cases hr;intro g' cur' hv hh;cases hv;rw [setRow_heap w g cur _ e _ hg] at hh;cases hh;intro j u hu;rw [KN] at hu
 by_cases c1:j<n * i.size
 {
 rw [KW,KD (by rw [htake,hown.1];exact c1),htake] at hu;exact hxs j u (by simpa using hu) }
 {
 by_cases c2:j<n * i.size+news.length
 {
 rw [KW,KC (by rw [htake,hown.1];omega),htake,hown.1,KD (by omega)] at hu;have:=hpn (j - n * i.size) u (by simpa using hu)
 rwa [show(j - n * i.size)% i.size=j % i.size by rw [Nat.mul_comm];exact Nat.sub_mul_mod (by rw [Nat.mul_comm];omega)] at this }
 {
 rw [KC (by rw [kj,htake,hown.1];omega),kj,htake,hown.1,List.getElem?_drop] at hu;exact hpc j u (by rw [<-hu,Array.getElem?_toList];congr 1;omega) } } }
 {
 have holds: ∀j u,xs[j]?=some u->w.cell? ((⟨g,0,none⟩:Addr).add j)=some u:=hown.cells (g:=g) rfl;rw [run_append_grow (P:=P) w t ty e i z ht hi hz ⟨g,0,none⟩ n cap xs hown.1 holds ad m c news hl hnews (by omega) (by omega) (growslice_fits (by omega) hbytes)] at hr;cases hr;intro g' cur' hv hh;cases hv;have:=kP w.drew (.cells (xs.toArray++news.toArray++Builtin.zeroCells z.cells (grownCap w (n+m) cap e - (n+m))) e);rw [show w.drew.heap.size=w.heap.size from rfl] at this;rw [this] at hh;cases hh;refine(hxs.app hpn ⟨n,by simpa using hown.1⟩).app (hpz.zeros hzs hsz _) ⟨n+m, ?_⟩;simp only [Array.size_append,List.size_toArray,hown.1,hl,Nat.add_mul] } }
end
section
attribute [local go_sem ↓] kM kO
theorem zn5 (v k:Nat) (hv:v<4) (hk:k<4) (w:World):
 Cq 101 #[iV v,iV k] w fun e w' =>∃g,e=.returned (sV g (3+9 * k+v) (3+9 * k+v))/\w.heap.size<=g/\zat w' g (imgF v k)/\bZ w w' :=by
 have HR:=uH (zpe (100 *(v:Int)+k) (some ⟨w.heap.size,0,none⟩) 1 (3+9 * k+v) (by omega) (by omega) (w.alloc (.cells #[iV (100 *(v:Int)+k)] 3)) (.inr ⟨w.heap.size,0,rfl,fun i hi=>by
  obtain rfl:i=0:=by simpa using hi
  exact zaa (kP w (.cells #[iV (100 *(v:Int)+k)] 3)) 0 _ rfl⟩))
 have h0: (v:Int)<4:=by omega
 have h1: (k:Int)<4:=by omega
 have hb:bZ w (w.alloc (.cells #[iV (100 *(v:Int)+k)] 3)):=bA1;rw [show(((3+9 * k+v:Nat)):Int)=3+9 *(k:Int)+v by omega] at HR;go_enter Tryz.func101,Tryz.ntmps101;go_wp2_with fail;refine(zae HR).mono ?_;rintro e w' ⟨g,rfl,hg,ho,hb2⟩;go_wp2_with fail;go_ret;exact⟨g,rfl,kc hb.size hg,ho,(bT hb hb2)⟩
structure BkS (w:World) (F B:Nat) (v:Value) (ss:LB):Prop where
 box:w.heap[B]?=some (.cells #[v] 24 (0,0))
 row:w.ownsRow F 9 1 v ss.length (strs ss)
def NmAns (w:World) (F B:Nat) (v:Value) (ss:LB) (s:ByteArray) (e:Ending) (w' :World):Prop:=
 e=.returned (iV (nmF ss s:Int))/\∃v',BkS w' F B v' (adF ss s)/\Chg (fun b=>b=B\/v.ownBlock=some b) w w' /\(v'.ownBlock=v.ownBlock\/∃g,v'.ownBlock=some g/\w.heap.size<=g)
theorem zbk {t:TypeId} {n:Nat} (h:w.ownsRow F t k v n vs): ∃a c,v=.slice a n c:=by
 rcases h.2 with ⟨e,e0⟩| ⟨g,cap,cur,e,-⟩
 { exact⟨none,0,by rw [e,e0]⟩ }
 { exact⟨_,_,e⟩ }
theorem zn2 {n c:Nat} (h:w.ownsRow F 9 1 (.slice a n c) n (strs ss)) (hl:ss.length=n):za1 w a ss:=by
 rcases h.2 with ⟨e,e0⟩| ⟨g,cap,cur,e,-,hg,-⟩
 { exact .inl (kn (by omega)) }
 {
 cases e;exact strs_of (.inr ⟨g,0,rfl,fun j u hu=>by have:=h.cells (g:=g) rfl j u hu;rwa [zc2] at this⟩) }
theorem ty_ne {b b' :Nat} {cs' :Array Value} {t t' :TypeId} {f f' :Nat×Nat} (h:w.heap[b]?=some (.cells cs t f)) (h' :w.heap[b']?=some (.cells cs' t' f')) (ht:t≠t'):b≠b' :=by
 intro e;subst e;rw [h] at h';cases h';exact ht rfl
theorem own_ty {t:TypeId} {n:Nat} (h:w.ownsRow F t k v n vs) {g:Nat} (hg:v.ownBlock=some g): ∃cur,w.heap[g]?=some (.cells cur t (0,0)):=by
 rcases h.2 with ⟨e,-⟩| ⟨g',cap,cur,e,-,h2,-⟩
 { rw [e] at hg;cases hg }
 {
 rw [e] at hg;have:g' =g:=by simpa [Value.ownBlock] using hg
 rw [<-this];exact⟨cur,h2⟩ }
theorem zb1 {t t' :TypeId} {n:Nat} (h:w.ownsRow F t k v n vs) {b:Nat} {f:Nat×Nat} (hb:w.heap[b]?=some (.cells cs t' f)) (ht:t≠t'):v.ownBlock≠some b:=fun e=>by
 obtain ⟨cur,hc⟩:=own_ty h e;exact ty_ne hc hb ht rfl
theorem box1_set {B:Nat} {u:Value} {t:TypeId} (h:w.heap[B]?=some (.cells #[v] t (0,0))): (w.setCell ⟨B,0,none⟩ u).heap[B]?=some (.cells #[u] t (0,0)):=by
 simp only [World.setCell,KP]
 simp [h]
theorem infoStr: (Tryz.prog.info? 9).map (fun i=>(i.zero,i.size,i.bytes))=some (some (.string ⟨#[]⟩),1,16):=by kernel_rfl
theorem zix (F B:Nat) (v:Value) (ss:LB) (s:ByteArray) (w:World) (h:BkS w F B v ss) (hn:ss.length<=1000) (hF:F<=w.heap.size):
 Cq 99 #[.string s,.pointer (some ⟨B,0,none⟩)] w (NmAns w F B v ss s):=by
 obtain ⟨a,c,rfl⟩:=zbk h.row;have y0:=zaa h.box 0 _ rfl;have z0:=zad h.box 0;have HI:=uH (zgv a ss.length c ss s w (zn2 h.row rfl) rfl (by unfold maxLen;omega));have HB:=uH h;have hnI: (ss.length:Int)<=1000:=by omega
 by_cases hq:nameN ss s=0
 {
 have e1:Hd (nmF ss s=ss.length+1):=by show _=_;unfold nmF;rw [KJ (by simpa using hq)]
 have e2:Hd (adF ss s=ss++ [s]):=by show _=_;unfold adF;rw [KJ (by simpa using hq)]
 rw [hq] at HI;clear hq h;go_enter Tryz.func99,Tryz.ntmps99;go_wp2_with fail;refine(zae HI).mono ?_;rintro e w1 ⟨rfl,rfl⟩;have hb:bZ w1 (w1.alloc (.cells #[.string s] 9)):=bA1;have hrw:=HB.o.row.alloc (.cells #[.string s] 9);obtain ⟨irr,hir,rz0,rz1,rz2⟩:=info_parts infoStr;obtain ⟨g,cap,w4,hr4,ho4,hg4,hat4,hlt4⟩:=run_append_lies (P:=Tryz.prog) _ 22 22 F 9 irr _ 1 16 Tryz.underlying22 hir rz0 rz1 rz2 rfl (by omega) _ ss.length (strs ss) hrw ⟨w1.heap.size,0,none⟩ 1 1 [.string s] rfl (World.news_of_block (kP w1 (.cells #[.string s] 9))) (by simp [Value.oneCell']) (by omega) (by unfold maxLen;omega) (by omega) (by simp;omega) _ rfl;have HR4:=uH hr4;have hne: (Value.slice a ss.length c).ownBlock≠some B:=zb1 HB.o.row HB.o.box (by decide);have hx4:Hd (w4.heap[B]?=some (.cells #[.slice a ss.length c] 24 (0,0))):=by show _=_;rw [hg4.block B (kw (zak HB.o.box) hb.size) (fun e=>hne e.symm)];exact zab HB.o.box hb
 have HG:Hd (g≠B):=by
  rcases hat4 with h|h
  { exact fun e=>hne (by rw [h,e]) }
  {
  intro e;have:=zak HB.o.box
  simp at h
  omega }
 have y4:=zaa hx4.o 0 _ rfl;have z4:=zad hx4.o 0;have HFin:Hd (NmAns w1 F B (.slice a ss.length c) ss s (.returned (iV ((ss.length+1:Nat):Int))) (w4.setCell ⟨B,0,none⟩ (sV g (ss.length+1) cap))):=by
  have hc4:Chg (fun b=>b=B\/(Value.slice a ss.length c).ownBlock=some b) w1 w4:=(Chg.of hb _).trans (Chg.grown hg4 fun b e=>.inr e);refine⟨by rw [e1.o],sV g (ss.length+1) cap,⟨box1_set hx4.o, ?_⟩,hc4.set (p:=⟨B,0,none⟩) (.inl rfl) _, ?_⟩
  {
  rw [e2.o];have:=ho4.kept (row:=some B) (w' :=w4.setCell ⟨B,0,none⟩ (sV g (ss.length+1) cap)) ⟨rfl,rfl,rfl,by simp [World.setCell],fun k _ hn=>ki _ _ _ _ (fun e=>hn (by rw [e]))⟩ (.inr (fun e=>HG.o (by simpa [Value.ownBlock] using e)))
  simpa [strs] using this }
  {
  rcases hat4 with h|h
  { exact .inl (by rw [h];rfl) }
  { exact .inr ⟨g,rfl,by rw [h];exact hb.size⟩ } }
 clear hr4 ho4 hg4 hat4 hlt4 hrw hne hb hir rz0 rz1 rz2 HG hx4 e1 e2 HI
 go_wp2_with (at_builtin;refine Lib.wpList_append_run _ rfl _ _ 22 22 rfl _ _ rfl rfl _ _ HR4.o ?_)
 go_ret;exact HFin.o }
 {
 have e1:Hd (nmF ss s=nameN ss s):=by show _=_;unfold nmF;rw [KK hq]
 have e2:Hd (adF ss s=ss):=by show _=_;unfold adF;rw [KK hq]
 have hle:Hd (nameN ss s<=ss.length):=zoc ss s;generalize nameN ss s=q at *;have hqI: (0:Int)<=(q:Int)- 1:=by omega
 have hq2: (q:Int)<=1000:=by have:=hle.o;omega
 have HFin:Hd (NmAns w F B (.slice a ss.length c) ss s (.returned (iV (q:Int))) w):=⟨by rw [e1.o],_,by rw [e2.o];exact h,Chg.refl _ _,.inl rfl⟩;clear h hq e1 e2;go_enter Tryz.func99,Tryz.ntmps99;go_wp2_with fail;refine(zae HI).mono ?_;rintro e w1 ⟨rfl,rfl⟩;go_wp2_with fail;go_ret;exact HFin.o }
end
section
attribute [local go_sem ↓] kM kO
def unF (ss:LB) (im:LI):Un:=(newU im (inN ss im)).1
def UnOk (ss:LB) (im:LI):Prop:=inE ss im=0/\inN ss im≠0/\(newU im (inN ss im)).2=0/\(unF ss im).ws.length=192
def pU (j:Nat) (u:Value):Prop:=j=2->∀x,u≠iV x
theorem ints_gap {g:Nat} {t:TypeId} (h:zag w a xs) (hx:5<=xs.length) (hb:w.heap[g]?=some (.cells cur t (0,0))) (hs:AllC 5 pU cur):Off g a:=by
 rcases h with h| ⟨b,off,rfl,hi⟩
 { subst h;simp at hx }
 {
 intro ad e;cases e;intro hgb;have hgb:b=g:=hgb;subst hgb;obtain ⟨j,hj,h5⟩: ∃j,j<5/\(off+j)% 5=2:=⟨(7 - off % 5)% 5,by omega,by omega⟩;have hc:=hi j (by omega);rw [cell_of_row w b (off+j) cur t (0,0) hb] at hc;exact hs (off+j) _ hc h5 _ rfl }
def KU (W:World) (v:Value) (b:Nat):Prop:=Sm W b\/v.ownBlock=some b
structure FUI (W:World) (us:List Un) (k:Nat) (v:Value) (wr:World):Prop where
 bel:bZ W wr
 row: ∃vs,wr.ownsRow W.heap.size 82 5 v k vs/\Vs (UR wr (KU W v)) us vs
 all: ∀g cur,v.ownBlock=some g->wr.heap[g]?=some (.cells cur 82 (0,0))->AllC 5 pU cur
theorem FUI.ao {wr w3:World} (h:FUI W us k v wr) (hb:bZ wr w3) (hi:zag w3 a ws) (hl:ws.length=192):Ao ws (KU W v) a:=by
 have h1:=zk2 (K:=Sm W) hi hl (bT h.bel hb) (fun _ e=>e)
 rcases h1 with h1|h1
 { exact .inl h1 }
 {
 refine .inr fun ad e hk=> ?_
 rcases hk with hk|hk
 { exact h1 ad e hk }
 {
 obtain ⟨vs,hr,-⟩:=h.row
 rcases hr.2 with ⟨e2,-⟩| ⟨g,cap,cur,e2,-,hg,-⟩
 { rw [e2] at hk;cases hk }
 {
 rw [e2] at hk;have hk:g=ad.block:=by simpa [Value.ownBlock] using hk
 exact ints_gap hi (by omega) (zab hg hb) (h.all g cur (by rw [e2];rfl) hg) ad e hk.symm } } }
theorem FUI.next {wr w3 w4:World} (h:FUI W us k v wr) (hb:bZ wr w3) {u:Un} {n c g cap:Nat} (hu:BW w3 a n c u.ws) (hl:u.ws.length=192)
 (hg:w3.grownBy w4 v.ownBlock) (hat:v.ownBlock=some g\/g=w3.heap.size) (ho: ∀vs,w3.ownsRow W.heap.size 82 5 v k vs->w4.ownsRow W.heap.size 82 5 (sV g (k+1) cap) (k+1) (vs++ [.slice a n c,iV u.fu,.bool u.up,iV u.n,iV u.hv]))
 (hall: ∀g' cur,(sV g (k+1) cap).ownBlock=some g' ->w4.heap[g']?=some (.cells cur 82 (0,0))->AllC 5 pU cur):
 FUI W (us++ [u]) (k+1) (sV g (k+1) cap) w4:=by
 obtain ⟨vs,hr,hv⟩:=h.row;have hb3:=bT h.bel hb;have hr3:=zba hr hb;have hc:Chg (KU W v) w3 w4:=Chg.grown hg (fun b e=>.inr e);have hK: ∀b,KU W (sV g (k+1) cap) b->KU W v b\/w3.heap.size<=b:=fun b e=>by
  rcases e with e|e
  { exact .inl (.inl e) }
  {
  have e:g=b:=by simpa [Value.ownBlock] using e
  rcases hat with h|h
  { exact .inl (.inr (by rw [h,e])) }
  { exact .inr (by omega) } }
 refine⟨?_,⟨_,ho vs hr3, ?_⟩,hall⟩
 {
 refine hb3.trans ?_;refine⟨hg.os,hg.tape,hg.output,kc (kQ _) hg.size,fun j hj=>hg.block j (kw hj hb3.size) (fun e=> ?_)⟩;have:=hr.lt j e.symm;omega }
 {
 have h1:Vs (UR w3 (KU W v)) us vs:=hv.mono (UR.chg (.of hb _));have h2:Vs (UR w3 (KU W v)) (us++ [u]) (vs++ [.slice a n c,iV u.fu,.bool u.up,iV u.n,iV u.hv]):=h1.app ⟨_, [],by simp,⟨a,n,c,rfl,hu,h.ao hb hu.at_ hl⟩,rfl⟩;have h3:Vs (UR w3 (fun b=>KU W v b\/w3.heap.size<=b)) (us++ [u]) _:=h2.mono (UR.off fun b e=>e);have h4:=h3.mono (UR.chg (hc.mono (K' :=fun b=>KU W v b\/w3.heap.size<=b) fun b e=>.inl e));exact h4.mono (UR.off fun b e=>.inl (hK b e)) }
theorem infoU: (Tryz.prog.info? 82).map (fun i=>(i.zero,i.size,i.bytes))=some (some (.agg #[nV,iV 0,.bool false,iV 0,iV 0]),5,56):=by kernel_rfl
theorem zou (a0:Value) (b:Bool) (a1 a3 a4:Value):AllC 5 pU #[a0,a1,.bool b,a3,a4]:=by
 intro i u hu hj x;have hi:i<5:=by have:=(Kh.1 hu).1;simpa using this
 obtain rfl:i=2:=by omega
 cases hu
 simp
def FuAns (w:World) (us:List Un) (e:Ending) (w' :World):Prop:=(∃a n c,e=.returned (.tuple #[.slice a n c,iV 0])/\RIn UR w' (fun b=>b<w.heap.size/\Sm w b) a n c us)/\bZ w w'
theorem FUI.last {n c:Nat} {wr:World} (h:FUI W us k (.slice a n c) wr) (hw:bZ w W) (hl:us.length=k) (hm:k<=1000):FuAns w us (.returned (.tuple #[.slice a n c,iV 0])) wr:=by
 obtain ⟨vs,hr,hv⟩:=h.row;have hK: ∀b,(b<w.heap.size/\Sm w b)->KU W (.slice a n c) b\/wr.heap.size<=b:=fun b e=>by
  obtain ⟨cs,t,h1,h2⟩:=e.2;exact .inl (.inl ⟨cs,t,zab h1 hw,h2⟩)
 have hsz:=hw.size;refine⟨⟨a,n,c,rfl, ?_⟩,(bT hw h.bel)⟩
 rcases hr.2 with ⟨e,e0⟩| ⟨g,cap,cur,e,hg0,hg,hc1,hc2,-,-⟩
 {
 cases e;have:vs= []:=kn (by rw [hr.1,e0]);subst this;exact⟨⟨[],.inl rfl,hv.mono (UR.off hK),.inl rfl⟩,by omega,kQ _,by decide⟩ }
 {
 cases e;exact⟨⟨vs,.inr ⟨g,0,rfl,fun j u hu=>by have:=hr.cells (g:=g) rfl j u hu;rwa [zc2] at this⟩,hv.mono (UR.off hK),.at_ (by show¬(g<_/\_);omega)⟩,hl,hc1,by unfold maxLen;omega⟩ }
theorem zi0 (ab:oA) (nb cb:Nat) (ss:LB) (ai:oA) (ni ci:Nat) (ims:LL) (w:World) (hb:BB w ab nb cb ss) (hi:BL w ai ni ims) (hT:Tab w) (hok: ∀im∈ims,UnOk ss im) (hn:ni<=1000):
 Cq 41 #[bookv ab nb cb,.slice ai ni ci] w (FuAns w (ims.map (unF ss))):=by
 have hw:bZ w (w.alloc (.cells #[.slice ab nb cb] 24)):=bA1;have b0:=uH (kP w (.cells #[.slice ab nb cb] 24));have HB:=uH hb;have HI:=uH hi;have HT:=uH hT;have HO:=uH hok;have HN:Hd (ims.length=ni):=hi.len;have HM:=uH hn;have hnI: (ni:Int)<=1000:=by omega
 clear hb hi hT hok hn;unfold bookv;go_enter Tryz.func41,Tryz.ntmps41;go_wp2_with fail;generalize w.alloc (.cells #[.slice ab nb cb] 24)=W at *;have I0:Hd (FUI W ((ims.take 0).map (unF ss)) 0 (nV) W):=⟨kS _ _,⟨[],KZ _ _ _ _,rfl⟩,fun g cur h=>by cases h⟩;obtain ⟨irr,hir,rz0,rz1,rz2⟩:=info_parts infoU
 go_loopw [6,14] (fun p i wq=>∃(k:Nat),k<=ni/\i=iV k/\Hd (FUI W ((ims.take k).map (unF ss)) k p wq)) (fun _ i _=>ni - (intOf i).toNat)
 case atStart=>exact⟨0,by omega,rfl,I0⟩
 case round=>
  clear I0;obtain ⟨wq,rfl⟩: ∃wq:World,wq=wr:=⟨_,rfl⟩;obtain ⟨k,hk,rfl,hI⟩:=hrel
  by_cases hkn:k<ni
  {
  have hkI: (k:Int)< (ni:Int):=by omega
  have hul:k<ims.length:=by rw [HN.o];exact hkn
  have hB:=bT hw hI.o.bel;obtain ⟨bi,oi,a5,c5,rfl,hcell,hints,hc5,hm5⟩:=zfd HI.o.at_ k hul;have HOk:=uH (HO.o ims[k] (KH hul));have HTk:Hd ((ims.take (k+1)).map (unF ss)= (ims.take k).map (unF ss)++ [unF ss ims[k]]):=by show _=_;rw [kl hul,List.map_append];rfl
  have hcell2:ce wq bi (oi+k)=some (Value.slice a5 ims[k].length c5):=(hB.cell (zah hcell)).trans hcell;have bq:=zaa (zab b0.o hI.o.bel) 0 _ rfl;generalize ims[k]=im at *;have hB2:=HB.o.bl hB;have hlm:im.length<=maxLen:=kc hc5 hm5;have HC:=uH (zew ab nb cb ss a5 im.length c5 im wq hB2.at_ hB2.len hB2.cap hB2.max hB2.short (hints.bl hB) rfl hlm (HT.o.bl hB));have HU:=uH (fun W2 (h2:bZ wq W2)=>zo0 a5 im.length c5 im (inN ss im) W2 ⟨(hints.bl hB).bl h2,rfl,hlm⟩);unfold bookv at HC;clear hul hcell hints hc5 hm5 hB hB2 hlm;have HK:Hd (k<ni):=hkn;clear hkn hk;go_wp2_with fail;refine(zae HC).mono ?_;rintro e w2 ⟨rfl,hb2⟩;have d1: (inE ss im !=0)=false:=by simpa using HOk.o.1
  have d2: (inN ss im==0)=false:=by simpa using HOk.o.2.1
  clear HC;go_wp2_with fail;refine(zae HU _ hb2).mono ?_;rintro e w3 ⟨⟨a6,n6,c6,rfl,hu6⟩,hb3⟩;unfold unv;have d3: ((newU im (inN ss im)).2 !=0)=false:=by simpa using HOk.o.2.2.1
  have HL6:Hd ((newU im (inN ss im)).1.ws.length=192):=HOk.o.2.2.2;clear HU d1 d2
  change Hd ((ims.take (k+1)).map (unF ss)= (ims.take k).map (unF ss)++ [(newU im (inN ss im)).1]) at HTk
  generalize (ims.take k).map (unF ss)=us at *;generalize inN ss im=nm at *;generalize inE ss im=ne at *;generalize newU im nm=r at *;obtain ⟨u,e6⟩:=r;dsimp only at HTk HL6 hu6 d3|-;have hbq:=bT hb2 hb3;have hb4:bZ w3 ((w3.alloc (.cells (aU a6 n6 c6 u) 82)).alloc (.cells (aU a6 n6 c6 u) 82)):=bA2;have hbq4:=bT hbq hb4;have bm:=uH (zau w3 (.cells (aU a6 n6 c6 u) 82) (.cells (aU a6 n6 c6 u) 82));obtain ⟨vs,hrow,-⟩:=hI.o.row;have hrw:=zba hrow hbq4;have hsz:=hI.o.bel.size;have hsz2:=hbq4.size;have hkm:k+1<=maxLen:=by have:=HK.o;have:=HM.o;unfold maxLen;omega
  obtain ⟨g,cap,w4,hr4,ho4,hg4,hat4,hlt4⟩:=run_append_lies (P:=Tryz.prog) _ 36 36 W.heap.size 82 irr _ 5 56 Tryz.underlying36 hir rz0 rz1 rz2 rfl (by omega) u6 k vs hrw ⟨w3.heap.size+1,0,none⟩ 1 1 [.slice a6 n6 c6,iV u.fu,.bool u.up,iV u.n,iV u.hv] rfl (World.news_of_block bm.o) (by simp [Value.oneCell']) (by omega) hkm (by have:=HK.o;have:=HM.o;omega) (by omega) _ rfl;have ha4:=zqx (P:=Tryz.prog) _ 36 36 82 W.heap.size irr _ 5 56 Tryz.underlying36 hir rz0 rz1 rz2 rfl (by omega) u6 k vs hrw ⟨w3.heap.size+1,0,none⟩ 1 1 [.slice a6 n6 c6,iV u.fu,.bool u.up,iV u.n,iV u.hv] rfl (World.news_of_block bm.o) (by simp [Value.oneCell']) (by omega) hkm (by have:=HK.o;have:=HM.o;omega) (fun g0 cur0 e0 h0=>hI.o.all g0 cur0 e0 (by rw [<-h0];exact(hbq4.block g0 (hrow.lt g0 e0).2).symm)) (zou _ _ _ _ _) (zou _ _ _ _ _) hr4;have HN4:Hd (FUI W ((ims.take (k+1)).map (unF ss)) (k+1) (sV g (k+1) cap) w4):=by
   show FUI _ _ _ _ _
   rw [HTk.o];refine hI.o.next hbq4 ⟨hu6.at_.bl hb4,hu6.len,hu6.cap,hu6.max⟩ HL6.o hg4 hat4 (fun vs' hv' => ?_) ha4;have:vs' =vs:=by
    rcases hv'.2 with ⟨e1,e2⟩| ⟨g1,cap1,cur1,e1,-,e3,-,-,-,e4⟩
    { rw [kn (by rw [hv'.1,e2]:vs'.length=0),kn (by rw [hrw.1,e2]:vs.length=0)] }
    {
    rcases hrw.2 with ⟨f1,f2⟩| ⟨g2,cap2,cur2,f1,-,f3,-,-,-,f4⟩
    { rw [e1] at f1;cases f1 }
    { rw [e1] at f1;cases f1;rw [e3] at f3;cases f3;rw [<-e4,<-f4] } }
   rw [this];exact ho4
  have HR4:=uH hr4;clear hr4 ho4 hg4 hat4 hlt4 ha4 hrw hrow hsz hsz2 hkm hbq4 hb4 hbq hb2 hb3 hu6 HOk HTk hI HL6 bm
  go_wp2_with (at_builtin;refine Lib.wpList_append_run _ rfl _ _ 36 36 rfl _ _ rfl rfl _ _ HR4.o ?_)
  go_roundw
  case rel=>exact⟨k+1,by have:=HK.o;omega,by go_num,HN4⟩
  case measure=>have:=HK.o;simp [intOf];omega }
  {
  have hkk:k=ni:=by omega
  subst hkk;clear hk hkn;have hv6: ∃a6 n6 c6,u6=Value.slice a6 n6 c6:=by
   obtain ⟨vs,hr,-⟩:=hI.o.row
   rcases hr.2 with ⟨e,-⟩| ⟨g,cap,cur,e,-⟩
   { exact⟨_,_,_,e⟩ }
   { exact⟨_,_,_,e⟩ }
  obtain ⟨a6,n6,c6,rfl⟩:=hv6;have HL:=uH (hI.o.last hw (by rw [Kr,KQ,HN.o];omega) HM.o);rw [kh (Kg HN.o)] at HL;clear hI;go_wp2_with fail;go_ret2;exact HL.o }
end
theorem boot_ok {x:Gt} (h:gtE x=0):gtE ⟨x.ws,-1,true,x.t,zbj x.vo,zbj x.di⟩=0:=by
 obtain ⟨h1,h2,h3,h4⟩:=zrp h;exact gtE_0 (zsr h1 (show(-1:Int)<= -1 by decide) (show(-1:Int)<=100000 by decide)) (by show 1<=(zbj x.vo).length/\(zbj x.vo).length<=4;rw [zru];exact h2) (by show(zbj x.di).length= (zbj x.vo).length;rw [zru,zru];exact h3) h4
theorem zt0 {u:Un} {t f f' :Int} (hu:unE u=0) (hx:unE x=0) (hf:f=u.fu\/f= -1) (hf' :f' =x.fu\/f' = -1) (h0:0<=t) (h1:t<=1) (h: ∀i:Nat,64+64 * t<=(i:Int)->(i:Int)<128+64 * t->x.ws.getD i 0=u.ws.getD i 0):imgS x.ws f' t=imgS u.ws f t:=by
 obtain ⟨k,rfl⟩:=Km h0;have ku:=zjw hu;have kx:=zjw hx;have cu:=fu_of hu;have cx:=fu_of hx;have eu:chk u.ws f=0:=zta (zdm ku.1).1 rfl cu.2.2 (by omega) (by omega);have ex:chk x.ws f' =0:=zta (zdm kx.1).1 rfl cx.2.2 (by omega) (by omega);exact img_same (zva eu ku.2.1 (by omega)) (zva ex kx.2.1 (by omega)) (by omega) ku.2.1 kx.2.1 (fun i a b=>h i (by omega) (by omega))
def btd (x:Un):Un:=⟨x.ws,-1,true,0,0⟩
theorem zue (h:unE x=0):unE (btd x)=0:=by
 obtain ⟨hk,hl,_⟩:=zjw h;exact unE_0 (u:=btd x) (zsr hk (by show(-1:Int)<= -1;decide) (by show(-1:Int)<=100000;decide)) hl (by show(inB 0 0 8&&inB 0 0 40)=true;decide)
structure Has (ws image:LI) (t:Nat) (n:Int) (k:Nat) (x:Un):Prop where
 fld:Fld ws image t k x.ws
 fu:x.fu= -1
 up:x.up=true
 n:x.n=n
 hv:x.hv=k
structure Ahead (ss:LB) (ws image:LI) (t:Nat) (n name:Int):Prop where
 book:bookE ss=0
 chk:lchk ws (-1)=0
 len:ws.length=192
 slot: (t:Int)=oth (stOf ws)
 img:imgE image=0
 rdy: (stOf ws).rdy=0
 lo: (stOf ws).by' <n
 lo1:1<=n
 hi:n<=8
 nm:inN ss image=name
 nm0:name≠0
theorem zxz {i:Nat} (h:xs.length<=i):xs.getD i 0=0:=by simp [List.getElem?_eq_none h]
theorem Fld.far {words G:LI} (h:Fld ws words t k G) (hl:ws.length=192):Far t ws G:=by
 intro i hi
 by_cases c:i<192
 { rw [h.at' i c,KJ (by omega)] }
 { rw [zxz (by rw [h.len];omega),zxz (by rw [hl];omega)] }
theorem Ahead.t1 (h:Ahead ss ws image t n name):t<=1:=by
 have:=zr1 h.chk;have:=h.slot;unfold oth at this;omega
theorem Ahead.words (h:Ahead ss ws image t n name): (1<=image.length/\image.length<=40)/\okL image=true:=by
 have q:=zlv h.img;refine⟨q.1,zwv fun i hi=> ?_⟩;have:=q.2 image[i] (KH hi);unfold okW
 simp [hi]
 exact this
theorem Has.ok (h:Has ws image t n k x) (hA:Ahead ss ws image t n name) (hk:k<=40):unE x=0/\stOf x.ws=stOf ws:=by
 have hf:=h.fld.far hA.len;have hl:x.ws.length=ws.length:=h.fld.len.trans hA.len.symm;refine⟨unE_0 ?_ h.fld.len ?_,zxc (by omega) hf hl⟩
 { exact zvs hA.chk hl (fun i hi=>hf i (.inl (by omega))) h.fld.ok (by rw [h.fu];decide) (by rw [h.fu];decide) }
 {
 have:=hA.hi;have:=hA.lo1;rw [h.n,h.hv,inB_t (by omega) (by omega),inB_t (by omega) (by omega)];rfl }
def pieM (n:Int) (image:LI) (p q:Nat):Ms:=⟨1,0,n,p,0,(image.drop p).take (q - p),false⟩
theorem zwr (h:okL xs=true) (p l:Nat):okL ((xs.drop p).take l)=true:=by
 unfold okL at *;rw [kH] at *;intro x hx;exact h x (List.mem_of_mem_drop (List.mem_of_mem_take hx))
theorem pieM_ok (hA:Ahead ss ws image t n name) {p q:Nat} (hp:p<=q) (hq:q<=image.length) (h8:q<=p+8):msE (pieM n image p q)=0:=by
 have w:=hA.words;have:=hA.lo1;have:=hA.hi
 apply msE_ok
 unfold msB pieM;simp only [zwr w.2,inB]
 simp
 omega
theorem clr_fine {s:Nat} (hs:s<=1) (e:slotE ws (-1) s=0): (clrS ws (-1) s).2.2=0:=by
 obtain ⟨hc,hl,-,-⟩:=zdt e;have q:=zhq hc;have e1:clrAt ws (-1) s 1= (chg (fun _ _=>65535) ((2+s * 2)* 32) 32 ws,-1,0):=by
  rw [ztz rfl]
  show eraS ws (-1) (2+(s:Int)* 2+((0:Nat):Int))=_
  rw [show 2+(s:Int)* 2+((0:Nat):Int)= ((2+s * 2:Nat):Int) by omega];exact zws hc (by omega) hl
 have hc1:chk (chg (fun _ _=>65535) ((2+s * 2)* 32) 32 ws) (-1)=0:=chk_chg hc _ _ _ (zvx q.2.2.2) (by decide) (by decide);have hl1: (chg (fun _ _=>65535) ((2+s * 2)* 32) 32 ws).length=192:=by rw [zbw];exact hl
 unfold clrS;rw [KJ (by simpa using e),ztz (by rw [e1]),e1,show 2+(s:Int)* 2+((1:Nat):Int)= ((3+s * 2:Nat):Int) by omega];generalize chg (fun _ _=>65535) ((2+s * 2)* 32) 32 ws=X at *;dsimp only;rw [zws (k:=3+s * 2) hc1 (by omega) hl1]
theorem zxx {p q:Nat} (h:Has ws image t n p x) (ht:t<=1) (hp:p<=q) (hq:q<=image.length) (hm:image.length<=40) (hok:okL image=true):
 ∃G,doV x (.fil t p ((image.drop p).take (q - p)))= (⟨G,-1,x.up,x.n,x.hv⟩,true)/\Fld ws image t q G:=by
 rcases fill_step h.fld ht (l:=q - p) (by omega) hm with ⟨h1,_⟩| ⟨_,G,h1,h2⟩
 { rw [zwr hok] at h1;cases h1 }
 {
 refine⟨G, ?_,by rw [show p+(q - p)=q by omega] at h2;exact h2⟩;unfold doV doT
 show doU x (fillS x.ws x.fu t p _)=_
 rw [h.fu,h1,doU_0 rfl] }
theorem zxj {u y:Un} {s:Us} {m:Ms} (h:u.n=m.n/\u.hv=m.at' /\(m.ws.length:Int)<=40 - m.at') (hd:doV u (.fil (oth s) m.at' m.ws)= (y,true)):zcj u s m=mind y y.n (y.hv+m.ws.length):=by
 unfold zcj;rw [KK h,hd,KK rfl]
theorem zx3 (hA:Ahead ss ws image t n name) {q:Nat} (hq0:0<q) (hq:q<=image.length) (h8:q<=8):
 ∃y,hearA ss ⟨ws,-1,true,0,0⟩ (pieM n image 0 q)= (y, [],0)/\Has ws image t n q y:=by
 have w:=hA.words;have hu:unE ⟨ws,-1,true,0,0⟩=0:=unE_0 hA.chk hA.len (by show(inB 0 0 8&&inB 0 0 40)=true;decide);have hh:heE ss ⟨ws,-1,true,0,0⟩ (pieM n image 0 q)=0:=(heE_3 hA.book hu).trans (pieM_ok hA (by omega) hq (by omega));have hE:slotE ws (-1) t=0:=zva (zdm hA.chk).1 hA.len hA.t1;obtain ⟨G,hG,-,hF⟩:=clr_done (words:=image) hA.t1 (clr_fine hA.t1 hE);have hc:doV ⟨ws,-1,true,0,0⟩ (.clr (oth (stOf ws)))= (⟨G,-1,true,0,0⟩,true):=by
  rw [<-hA.slot];unfold doV doT
  show doU _ (clrS ws (-1) t)=_
  rw [hG,doU_0 rfl]
 have hx:Has ws image t n 0 (mind ⟨G,-1,true,0,0⟩ n 0):=⟨hF,rfl,rfl,rfl,rfl⟩;obtain ⟨G',h1,h2⟩:=zxx hx hA.t1 (KG q) hq w.1.2 w.2;have hlo:=hA.lo;refine⟨⟨G',-1,true,n,q⟩, ?_,⟨h2,rfl,rfl,rfl,rfl⟩⟩;rw [zu7 hh rfl,zwl rfl];have hlen: ((image.drop 0).take (q - 0)).length=q:=by simp;omega
 have e:zda ⟨ws,-1,true,0,0⟩ (stOf ws) (pieM n image 0 q)= ⟨G',-1,true,n,q⟩:=by
  unfold zda;rw [KJ (by rw [hA.rdy];show¬((0:Int)≠0\/n<=_);omega)];have hpa:zb8 ⟨ws,-1,true,0,0⟩ (stOf ws) (pieM n image 0 q)= (mind ⟨G,-1,true,0,0⟩ n 0,true):=by
   unfold zb8;rw [KK ⟨rfl,.inr rfl⟩,hc];rfl
  rw [hpa]
  show zcj (mind ⟨G,-1,true,0,0⟩ n 0) (stOf ws) (pieM n image 0 q)=_
  rw [zxj (y:=⟨G',-1,true,n,0⟩) ⟨rfl,rfl,by show(((image.drop 0).take (q - 0)).length:Int)<=40 - 0;rw [hlen];omega⟩ (by rw [<-hA.slot];exact h1)]
  show(⟨G',-1,true,n,0+(((image.drop 0).take (q - 0)).length:Int)⟩:Un)=_
  rw [hlen,Int.zero_add]
 exact congrArg (fun z=>(z,([]:List Ms),(0:Int))) e
theorem zx6 (hA:Ahead ss ws image t n name) {p q:Nat} (hx:Has ws image t n p x) (hp0:0<p) (hp:p<=q) (hq:q<=image.length) (h8:q<=p+8):
 ∃y,hearA ss x (pieM n image p q)= (y, [],0)/\Has ws image t n q y:=by
 have w:=hA.words;have ko:=hx.ok hA (by omega);have hh:heE ss x (pieM n image p q)=0:=(heE_3 hA.book ko.1).trans (pieM_ok hA hp hq h8);obtain ⟨G',h1,h2⟩:=zxx hx hA.t1 hp hq w.1.2 w.2;have hlo:=hA.lo;refine⟨⟨G',-1,true,n,q⟩, ?_,⟨h2,rfl,rfl,rfl,rfl⟩⟩;rw [zu7 hh hx.up,zwl rfl,ko.2];have hlen: ((image.drop p).take (q - p)).length=q - p:=by simp;omega
 have e:zda x (stOf ws) (pieM n image p q)= ⟨G',-1,true,n,q⟩:=by
  unfold zda;rw [KJ (by rw [hA.rdy];show¬((0:Int)≠0\/n<=_);omega)];have hpa:zb8 x (stOf ws) (pieM n image p q)= (x,true):=by
   unfold zb8;rw [KJ (by show¬((p:Int)=0/\_);omega)]
  rw [hpa]
  show zcj x (stOf ws) (pieM n image p q)=_
  rw [zxj (y:=⟨G',-1,x.up,x.n,x.hv⟩) ⟨hx.n,hx.hv,by show(((image.drop p).take (q - p)).length:Int)<=40 - p;rw [hlen];omega⟩ (by rw [<-hA.slot];exact h1)]
  show(⟨G',-1,x.up,x.n,x.hv+(((image.drop p).take (q - p)).length:Int)⟩:Un)=_
  rw [hlen,hx.up,hx.n,hx.hv,show(p:Int)+((q - p:Nat):Int)= (q:Int) by omega]
 exact congrArg (fun z=>(z,([]:List Ms),(0:Int))) e
theorem Ahead.name60 (h:Ahead ss ws image t n name):1<=name/\name<=60:=by
 have h1:=h.nm;have h0:=h.nm0;have hb:=h.book;unfold inN nameE at h1;rw [KK h.img,KK hb] at h1;have:=zoc ss (bs (imgT image));have hs:ss.length<=60:=by
  unfold bookE at hb
  split at hb
  { cases hb }
  { omega }
 omega
theorem fld_body {G:LI} (h:Fld ws image t image.length G) (hm:image.length<=40) (ht:t<=1): (G.drop (68+64 * t)).take image.length=image:=by
 apply zr4
 { simp [h.len];omega }
 {
 intro i hi;have hi2:i<image.length:=by simp [h.len] at hi;omega
 have:=h.at' (68+64 * t+i) (by omega);rw [KK (by omega),KK (by omega),show 68+64 * t+i - (68+64 * t)=i by omega] at this;rw [<-this]
 simp [hi2] }
theorem seal_neg {G:LI} (h:Fld ws image t image.length G) (ht:t<=1) (hB:sealB image.length name=true):
 ∃H,sealS G (-1) t image.length name= (H,-1,0)/\Sld G t 4 image.length name H:=by
 have hE:=h.slot (f:= -1) (t:=t) (by decide) (by decide) ht;have hc:=h.chk (f:= -1) (by decide) (by decide);have hok:=headL_ok hB;have hp: (64+64 *(t:Int))= ((64+64 * t:Nat):Int):=by omega
 refine⟨chg (andW (headL image.length name)) (64+64 * t) 4 G, ?_,⟨?_, ?_, ?_⟩⟩
 {
 unfold sealS;rw [KJ (by simpa using hE),KJ (by simp [hB]),hp,zxs hc (by rw [zwo,h.len];omega) hok,zwo] }
 { rw [zbw];exact h.len }
 { exact chg_ok h.ok hok (by rw [zwo];exact kQ _) (by rw [h.len];omega) }
 {
 intro i hi;rw [zrq _ _ _ _ _ (by rw [h.len];exact hi)]
 by_cases c1:64+64 * t<=i/\i<64+64 * t+4
 {
 rw [KK c1,KK c1,h.at' i hi,KK (by omega),KJ (by omega)];unfold andW;exact zs0 (zk3 hok _ (by rw [zwo];omega)) }
 { rw [KJ c1,KJ c1] } }
def preK (k n:Int) (image:LI) (name:Int):Ms:=⟨2,k,n,image.length,name, [],false⟩
theorem zx2 (hA:Ahead ss ws image t n name) (hx:Has ws image t n image.length x) {k:Int} (hk3:0<=k/\k<=3):
 ∃X:Un,unE X=0/\(X.fu= -1/\X.up=true/\X.n=0/\X.hv=0)/\stOf X.ws=stOf ws/\genN X.ws=genN ws/\(∀f,-1<=f->f<=100000->imgS X.ws f t= (image,name,0))/\hearA ss x (preK k n image name)= ((prepC X (stOf ws) (preK k n image name)).1,(prepC X (stOf ws) (preK k n image name)).2,0):=by
 have w:=hA.words;have ko:=hx.ok hA w.1.2;have nm:=hA.name60;have hlo:=hA.lo;have hm:msE (preK k n image name)=0:=by
  have:=hA.lo1;have:=hA.hi
  apply msE_ok
  unfold msB preK
  simp [okL,inB]
  omega
 have hh:heE ss x (preK k n image name)=0:=(heE_3 hA.book ko.1).trans hm;have hE:slotE x.ws x.fu t=0:=by rw [hx.fu];exact hx.fld.slot (by decide) (by decide) hA.t1
 have hw:bodyS x.ws x.fu (oth (stOf ws)) (preK k n image name).at' = (image,0):=by
  rw [<-hA.slot];unfold bodyS;rw [KJ (by simpa using hE),KJ (by show¬inB (image.length:Int) 0 40=false;rw [inB_t (by omega) (by omega)];decide)]
  show((x.ws.drop (68+64 *(t:Int)).toNat).take (image.length:Int).toNat,(0:Int))=_
  rw [show(68+64 *(t:Int)).toNat=68+64 * t by omega,kp,fld_body hx.fld w.1.2 hA.t1]
 have hmt:zh6 ss x (stOf ws) (preK k n image name)=true:=by
  unfold zh6 zfm;rw [hw];have hin:inE ss image=0:=by unfold inE;rw [KK hA.img];exact hA.book
  show(decide ((0:Int)=0)&&(decide (inE ss image=0)&&(decide (inN ss image≠0)&&decide (inN ss image=name))))=true
  rw [hin,hA.nm]
  simp [hA.nm0]
 have hB:sealB image.length name=true:=by unfold sealB;rw [inB_t (by omega) (by omega),inB_t nm.1 nm.2];rfl
 obtain ⟨H,hS,hH⟩:=seal_neg hx.fld hA.t1 hB;have hd:doV x (.sea (oth (stOf ws)) (preK k n image name).at' (preK k n image name).im)= (⟨H,-1,x.up,x.n,x.hv⟩,true):=by
  rw [<-hA.slot];unfold doV doT
  show doU x (sealS x.ws x.fu t image.length name)=_
  rw [hx.fu,hS,doU_0 rfl]
 have hi: ∀f,-1<=f->f<=100000->imgS H f t= (image,name,0):=fun f h0 h1=>by
  rw [zx4 hx.fld hH hA.t1 (kQ 4) hB h0 h1,KK rfl]
 have c:=slt_sea (t:=oth (stOf ws)) (l:=(preK k n image name).at') (n:=(preK k n image name).im) ko.1 (by rw [<-hA.slot];omega);rw [hd] at c;have hst:stOf H=stOf ws:=c.st.trans ko.2;obtain ⟨X,hX⟩: ∃X,X=mind (⟨H,-1,x.up,x.n,x.hv⟩:Un) 0 0:=⟨_,rfl⟩;have hXE:unE X=0:=by
  obtain ⟨h1,h2,_⟩:=zjw c.ok;rw [hX];exact unE_0 h1 h2 (by show(inB 0 0 8&&inB 0 0 40)=true;decide)
 have hXs:stOf X.ws=stOf ws:=by rw [hX];exact hst
 have hwh:zj4 X (stOf ws) (preK k n image name) image=true:=by
  unfold zj4 eqL;have e:imgS X.ws X.fu (oth (stOf ws))= (image,name,0):=by rw [hX,<-hA.slot];exact hi (-1) (by decide) (by decide)
  rw [e]
  show(decide ((0:Int)=0)&&(decide (name=name)&&decide (image=image)))=true
  simp
 have hk:hearA ss x (preK k n image name)= ((prepC X (stOf ws) (preK k n image name)).1,(prepC X (stOf ws) (preK k n image name)).2,0):=by
  rw [zu7 hh hx.up,zw0 rfl,ko.2];have e:prepS ss x (stOf ws) (preK k n image name)=prepC X (stOf ws) (preK k n image name):=by
   unfold prepS;rw [KJ (by show¬n<=_;omega),KJ (by simpa using hA.rdy),KK ⟨hx.n,hx.hv,hmt⟩];unfold prepB;rw [hd]
   show(if zj4 (mind (⟨H,-1,x.up,x.n,x.hv⟩:Un) 0 0) (stOf ws) (preK k n image name) (zfm x (stOf ws) (preK k n image name))=true then _ else _)=_
   rw [<-hX,show zfm x (stOf ws) (preK k n image name)=image by unfold zfm;rw [hw],KK hwh]
  rw [e]
 have hg:genN H=genN ws:=(zus ((show H.length=192 from(zjw c.ok).2.1).trans hA.len.symm) fun i hi=>(c.far i (.inl (by rw [<-hA.slot];omega))).trans (hx.fld.far hA.len i (.inl (by omega)))).2.1;exact⟨X,hXE,by rw [hX];exact⟨rfl,hx.up,rfl,rfl⟩,hXs,by rw [hX];exact hg,by rw [hX];exact hi,hk⟩
end Go.Proofs.YthmekfcgdfckaaaGreatDoor
