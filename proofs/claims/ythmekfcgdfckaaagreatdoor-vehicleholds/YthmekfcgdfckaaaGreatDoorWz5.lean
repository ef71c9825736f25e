/- Facts. -/
import Derived.Test.YthmekfcgdfckaaaGreatDoorWz1
import Derived.Laws.EntriesVeiled
import Derived.Test.YthmekfcgdfckaaaGreatDoorWz2
import Derived.Laws.StructEq
set_option maxRecDepth 1000000
set_option maxHeartbeats 0
namespace Go.Proofs.YthmekfcgdfckaaaGreatDoor
open Go.RowKit
variable {p k:Nat} {words ws:LI} {f:Int}
def apW (o:Option (Nat×Int)) (was:Int):Int:=match o with
 |none=>65535
 |some (_,x)=>bits .and .i64 was x
def eraL (s:Nat) (k:Nat):List (Nat×Option (Nat×Int)):=(List.range k).map (fun i=>(32 * s+i,none))
theorem zss (s k:Nat): (eraL s k).length=k:=by simp [eraL]
theorem eraL_succ (s k:Nat):eraL s (k+1)=eraL s k++ [(32 * s+k,none)]:=by simp [eraL,List.range_succ]
def ProL (p:Nat) (words:LI) (k:Nat) (cs:List (Nat×Option (Nat×Int))):Prop:=cs.length=k/\∀i,i<k->∃b,cs[i]?=some (p+i,some (b,words.getD i 0))
theorem ProL.nil (p:Nat) (words:LI):ProL p words 0 []:=⟨rfl,fun i hi=>by omega⟩
theorem ProL.succ {cs:List (Nat×Option (Nat×Int))} (h:ProL p words k cs) (b:Nat):ProL p words (k+1) (cs++ [(p+k,some (b,words.getD k 0))]):=by
 refine⟨by rw [kj,h.1];rfl,fun i hi=> ?_⟩
 by_cases c:i<k
 {
 obtain ⟨b',hb'⟩:=h.2 i c;exact⟨b',by rw [KD (by rw [h.1];exact c)];exact hb'⟩ }
 {
 obtain rfl:i=k:=by omega
 exact⟨b,by rw [KC (by rw [h.1];exact kQ _),h.1];simp⟩ }
section
set_option linter.unusedSimpArgs false
def zro (cs:List (Nat×Option (Nat×Int))) (ws:LI):LI:=cs.foldl (fun ws c=>ws.set c.1 (apW c.2 (ws.getD c.1 0))) ws
theorem zrs (cs:List (Nat×Option (Nat×Int))) (ws:LI): (zro cs ws).length=ws.length:=by
 unfold zro
 induction cs generalizing ws with
 |nil=>rfl
 |cons c cs ih=>simp only [List.foldl_cons];rw [ih];simp
theorem zvu (cs:List (Nat×Option (Nat×Int))) (ws:LI) (k:Nat) (c:Nat×Option (Nat×Int)) (h:cs[k]?=some c):
 zro (cs.take (k+1)) ws= (zro (cs.take k) ws).set c.1 (apW c.2 ((zro (cs.take k) ws).getD c.1 0)):=by
 obtain ⟨hk,rfl⟩:=kY.1 h
 show(cs.take (k+1)).foldl _ ws=_
 rw [kl hk,List.foldl_append];rfl
def chgS (ws:LI) (fuel:Int) (cs:List (Nat×Option (Nat×Int))):LI×Int×Int:=
 (zro (cs.take (cnt fuel cs.length)) ws,burn fuel (cnt fuel cs.length),perr fuel cs.length)
end
section
attribute [local go_sem ↓] kM kO
theorem zuf (ws:LI) (s k:Nat):zro (eraL s k) ws=chg (fun _ _=>65535) (s * 32) k ws:=by
 induction k with
 |zero=>rfl
 |succ k ih=>
  rw [eraL_succ];have:zro (eraL s k++ [(32 * s+k,none)]) ws= (zro (eraL s k) ws).set (32 * s+k) 65535:=by simp [zro,apW]
  rw [this,ih,Nat.mul_comm 32 s];rfl
theorem eraL_take (s n k:Nat) (h:k<=n): (eraL s n).take k=eraL s k:=by
 unfold eraL;rw [<-List.map_take,List.take_range,kK h]
theorem chgS_era {fuel:Int} {s:Nat} (h:chk ws fuel=0) (hs: (s:Int)< (ws.length:Int)/ 32):chgS ws fuel (eraL s 32)=eraS ws fuel s:=by
 unfold chgS eraS;rw [KJ (by simpa using h),KJ (by omega),zss,eraL_take _ _ _ (zr7 _ _),zuf,kp]
end
section
attribute [local go_sem ↓] kM kO
theorem ProL.lt {n:Nat} {cs:List (Nat×Option (Nat×Int))} (h:ProL p words n cs) (c:Nat×Option (Nat×Int)) (hc:c∈cs):c.1<p+n:=by
 obtain ⟨i,hi,he⟩:=List.getElem_of_mem hc;have hi' :i<n:=by rw [h.1] at hi;exact hi
 obtain ⟨b,hb⟩:=h.2 i hi';rw [kX hi,he] at hb;have:=kJ hb;rw [this];simp only;omega
theorem zs4 {n:Nat} {cs:List (Nat×Option (Nat×Int))} (h:ProL p words n cs) (hf:p+n<=ws.length) (k:Nat) (hk:k<=n):zro (cs.take k) ws=chg (andW words) p k ws:=by
 induction k with
 |zero=>rfl
 |succ k ih=>
  obtain ⟨b,hb⟩:=h.2 k (by omega);rw [zvu cs ws k _ hb,ih (by omega)];simp only [apW];rw [zjd (andW words) p k ws (by omega)];rfl
theorem chgS_pro {fuel:Int} {cs:List (Nat×Option (Nat×Int))} (h:chk ws fuel=0) (hp:ProL p words words.length cs) (hf:p+words.length<=ws.length) (hok:okL words=true):chgS ws fuel cs=progS ws fuel p words:=by
 rw [prog_ok h hf hok];unfold chgS;rw [hp.1,zs4 hp hf _ (zr7 _ _)]
end
theorem zr8 (A B:List (Nat×Option (Nat×Int))) (ws:LI):zro (A++B) ws=zro B (zro A ws):=by
 unfold zro;rw [List.foldl_append]
theorem zs8 {n m:Nat} (h:cnt f n<n):cnt f (n+m)=cnt f n:=by
 by_cases hf:f<0
 { rw [zsy _ hf] at h;omega }
 { rw [zks _ hf] at *;rw [zks _ hf];omega }
theorem zt8 {n m:Nat} (h:cnt f n=n):cnt f (n+m)=n+cnt (burn f n) m:=by
 by_cases hf:f<0
 { rw [zsy _ hf,zeo _ hf,zsy _ hf] }
 {
 have h' :=h;rw [zks _ hf] at h';rw [zks _ hf,ze4 _ hf,zks _ (by omega)];omega }
theorem burn_add {n:Nat} (h:cnt f n=n):burn f (n+k)=burn (burn f n) k:=by
 by_cases hf:f<0
 { rw [zeo _ hf,zeo _ hf,zeo _ hf] }
 {
 have h' :=h;rw [zks _ hf] at h';rw [ze4 _ hf,ze4 _ hf,ze4 _ (by omega)];omega }
theorem chgS_stop {A B:List (Nat×Option (Nat×Int))} (h:cnt f A.length<A.length):chgS ws f (A++B)=chgS ws f A:=by
 unfold chgS;rw [kj,zs8 h,zst h,zst (by rw [zs8 h];omega),Kn (by omega)]
theorem chgS_go {A B:List (Nat×Option (Nat×Int))} (h:cnt f A.length=A.length):chgS ws f (A++B)=chgS (zro A ws) (burn f A.length) B:=by
 unfold chgS;rw [kj,zt8 h,burn_add h,List.take_length_add_append,zr8]
 congr 2
 unfold perr;rw [zt8 h]
 by_cases c:cnt (burn f A.length) B.length=B.length
 { rw [KK c,KK (by omega)] }
 {
 rw [KJ c,KJ (by omega)] }
theorem zdr (n a b:Int) (w:World):Cq 134 #[iV n,iV a,iV b] w fun e w' =>e=.returned (.bool (inR n a b))/\w' =w:=by
 by_cases h0:a<=n
 {
 by_cases h1:n<=b
 {
 have hd:decide (n<=b)=true:=by simp;omega
 go_enter Tryz.func134,Tryz.ntmps134;go_wp2;go_ret;exact⟨zan (inR_t h0 h1).symm,rfl⟩ }
 {
 have hd:decide (n<=b)=false:=by simp;omega
 go_enter Tryz.func134,Tryz.ntmps134;go_wp2;go_ret;exact⟨zan (inR_hi (by omega)).symm,rfl⟩ } }
 {
 go_enter Tryz.func134,Tryz.ntmps134;go_wp2;go_ret;exact⟨zan (inR_lo (by omega)).symm,rfl⟩ }
theorem has_hit {α:Type} [DecidableEq α] {xs:List α} {x:α} (hk:k<xs.length) (h:x=xs[k]):has xs x=true:=by
 unfold has;rw [h]
 simp
theorem has_not {α:Type} [DecidableEq α] {xs:List α} {x:α} (h:x∉xs):has xs x=false:=by
 unfold has
 simp [h]
theorem znw {α:Type} {xs:List α} {x:α} (hk:k<xs.length) (h:x∉xs.take k) (hne: ¬x=xs[k]):x∉xs.take (k+1):=by
 rw [kl hk];simp only [KS,List.mem_singleton,not_or];exact⟨h,hne⟩
theorem zp3 (a:oA) (n c:Nat) (xs:LI) (x:Int) (w:World) (h:BI w a n xs):
 Cq 113 #[.slice a n c,iV x] w fun e w' =>(∃q:Int,e=.returned (iV q)/\decide (0<=q)=has xs x)/\w' =w:=by
 obtain ⟨h,hn,hm⟩:=h;unfold maxLen at hm;have HN:Hd (xs.length=n):=hn;go_enter Tryz.func113,Tryz.ntmps113;go_wp2
 go_loop [8] (fun i=>∃k:Nat,k<=n/\i=iV k/\Hd (x∉xs.take k)) (fun i=>n - (intOf i).toNat)
 case atStart=>exact⟨0,KG _,rfl,by show _∉_;simp⟩
 case round=>
  obtain ⟨k,hk,rfl,ht⟩:=hrel
  by_cases hlt:k<n
  {
  rcases h with rfl| ⟨b0,o0,rfl,hc0⟩
  { simp at hn;omega }
  have hkx:k<xs.length:=by omega
  have e0:=hc0 k hkx;rw [show xs.getD k 0=xs[k] by simp [hkx]] at e0;clear hn hc0
  by_cases he:x=xs[k]
  {
  have hb: (x==xs[k])=true:=by simpa using he
  have HE:=uH (has_hit hkx he);clear he;generalize xs[k]=y at *;go_wp2;go_ret;exact⟨⟨_,rfl,by rw [HE.o];simp⟩,rfl⟩ }
  {
  have hb: (x==xs[k])=false:=by simpa using he
  have HE:=uH (znw hkx ht.o he);clear he;generalize xs[k]=y at *;go_wp2
  go_round
  case rel=>exact⟨k+1,by omega,by go_num,HE.o⟩
  case measure=>simp [intOf];omega } }
  {
  go_wp2;go_ret;have hx:=ht.o;rw [kh (by omega)] at hx;exact⟨⟨-1,rfl,by rw [has_not hx];rfl⟩,rfl⟩ }
theorem zmr (a:oA) (n c:Nat) (xs:LI) (x:Int) (w:World) (h:BI w a n xs):
 Cq 31 #[.slice a n c,iV x] w fun e w' =>e=.returned (.bool (has xs x))/\w' =w:=by
 have hc:=uH (zp3 a n c xs x w h);clear h;generalize has xs x=r at *;go_enter Tryz.func31,Tryz.ntmps31;go_wp2_with fail;refine(zae hc).mono ?_;rintro e w' ⟨⟨q,rfl,hq⟩,rfl⟩;go_wp2;go_ret;exact⟨rfl,rfl⟩
theorem sig_guard:Tryz.prog.eqGuardType Tryz.prog.depth 111=false:=by kernel_rfl
theorem zrn (a:oA) (n c:Nat) (l:List S2) (s:S2) (w:World) (h:BG w a n l):
 Cq 327 #[.slice a n c,sv s] w fun e w' =>(∃q:Int,e=.returned (iV q)/\decide (0<=q)=has l s)/\bZ w w' :=by
 obtain ⟨h,hn,hm⟩:=h;unfold maxLen at hm;have HN:=uH hn;have hg:=sig_guard;have hw0:bZ w (w.alloc (.cells #[iV s.1,iV s.2] 111)):=bA1;have b0:=kP w (.cells #[iV s.1,iV s.2] 111);have y0:=zaa b0 0 _ rfl;have y1:=zaa b0 1 _ rfl;have i0:=h.bl hw0;unfold sv;clear hn b0 h;go_enter Tryz.func327,Tryz.ntmps327;go_wp2;generalize w.alloc (.cells #[iV s.1,iV s.2] 111)=W at *
 go_loopw [8] (fun i wr=>∃k:Nat,k<=n/\i=iV k/\Hd (s∉l.take k)/\∃m,wr=W.drewN m) (fun i _=>n - (intOf i).toNat)
 case atStart=>exact⟨0,KG _,rfl,by show _∉_;simp,0,rfl⟩
 case round=>
  obtain ⟨k,hk,rfl,ht,m,rfl⟩:=hrel
  by_cases hlt:k<n
  {
  rcases i0 with rfl| ⟨bb,oo,rfl,hc0⟩
  {
  have:=HN.o
  simp at this
  omega }
  have hkx:k<l.length:=by rw [HN.o];exact hlt
  obtain ⟨p0,p1⟩:=hc0 k l[k] (kX hkx);clear hc0
  by_cases he:s=l[k]
  {
  have HE:=uH (has_hit hkx he);rw [<-he] at p0 p1;clear he;go_wp2;go_quiet (fail);go_wp2;go_ret;exact⟨⟨_,rfl,by rw [HE.o];simp⟩,kA (kA hw0 _) _⟩ }
  {
  have HE:=uH (znw hkx ht.o he);generalize l[k]=y at *;obtain ⟨s0,s1⟩:=s;obtain ⟨z0,z1⟩:=y;simp only at p0 p1 y0 y1
  by_cases d0:s0=z0
  {
  have d1: ¬s1=z1:=fun e=>he (by rw [d0,e])
  subst d0;clear he;go_wp2;go_quiet (fail);go_wp2
  go_roundw
  case rel=>exact⟨k+1,by omega,by go_num,HE.o,m+nq,rfl⟩
  case measure=>simp [intOf];omega }
  {
  clear he;go_wp2;go_quiet (fail);go_wp2
  go_roundw
  case rel=>exact⟨k+1,by omega,by go_num,HE.o,m+nq,rfl⟩
  case measure=>simp [intOf];omega } } }
  {
  go_wp2;go_ret;have hx:=ht.o;rw [kh (by rw [HN.o];omega)] at hx;exact⟨⟨-1,rfl,by rw [has_not hx];rfl⟩,kA hw0 _⟩ }
theorem zm1 (a:oA) (n c:Nat) (l:List S2) (s:S2) (w:World) (h:BG w a n l):
 Cq 321 #[.slice a n c,sv s] w fun e w' =>e=.returned (.bool (has l s))/\bZ w w' :=by
 have hc:=uH (fun W hW=>zrn a n c l s W hW);have hw0:bZ w (w.alloc (.cells #[iV s.1,iV s.2] 111)):=bA1;have i0:=h.bl hw0;clear h;generalize has l s=r at *;unfold sv at hc|-;go_enter Tryz.func321,Tryz.ntmps321;go_wp2_with fail;generalize w.alloc (.cells #[iV s.1,iV s.2] 111)=W at *;refine(zae hc _ i0).mono ?_;rintro e w' ⟨⟨q,rfl,hq⟩,hb⟩;go_wp2;go_ret;exact⟨rfl,(bT hw0 hb)⟩
theorem zd3 (a:oA) (n c:Nat) (l:List S2) (w:World) (h:BG w a n l):
 Cq 39 #[.slice a n c] w fun e w' =>e=.returned (iV (sigE l))/\bZ w w' :=by
 obtain ⟨h,hn,hm⟩:=h;unfold maxLen at hm;have HN:=uH hn
 by_cases h1:360<n
 {
 have HE:=uH (sigE_many (l:=l) (by omega));clear hn;go_enter Tryz.func39,Tryz.ntmps39;go_wp2_with fail;go_ret;exact⟨zap HE.o.symm,kS _ _⟩ }
 {
 have hle:=uH (show l.length<=360 by omega);clear hn;go_enter Tryz.func39,Tryz.ntmps39;go_wp2_with fail
 go_loopw [10] (fun i wr=>∃k:Nat,k<=n/\i=iV k/\bZ w wr/\Hd ((l.take k).all sOK=true)) (fun i _=>n - (intOf i).toNat)
 case atStart=>exact⟨0,KG _,rfl,kS _ _,by show _=_;simp⟩
 case round=>
  obtain ⟨wq,rfl⟩: ∃wq:World,wq=wr:=⟨_,rfl⟩;obtain ⟨k,hk,rfl,hw,ht⟩:=hrel
  by_cases hlt:k<n
  {
  have i1:=h.bl hw
  rcases i1 with rfl| ⟨b0,o0,rfl,hc0⟩
  {
  have:=HN.o
  simp at this
  omega }
  have hkx:k<l.length:=by rw [HN.o];exact hlt
  obtain ⟨e0,e1⟩:=hc0 k l[k] (kX hkx);clear hc0;have hw1:=hw.alloc hw.size (.cells #[iV l[k].1,iV l[k].2] 111);have HB:=uH (sigE_bad hle.o hkx);have HX:=uH (sOK_step hkx ht.o);generalize l[k]=s at *;cases g1:inR s.1 1 50
  {
  have HV:=uH (HB.o (by unfold sOK;rw [g1];rfl))
  go_wp2_with (go_at_call 134;refine(zdr _ _ _ _).mono ?_;rintro e w' ⟨rfl,rfl⟩)
  go_ret;exact⟨zap HV.o.symm,hw1⟩ }
  {
  cases g2:inR s.2 1 60
  {
  have HV:=uH (HB.o (by unfold sOK;rw [g1,g2];rfl))
  go_wp2_with (go_at_call 134;refine(zdr _ _ _ _).mono ?_;rintro e w' ⟨rfl,rfl⟩)
  go_ret;exact⟨zap HV.o.symm,hw1⟩ }
  {
  have HV:=uH (HX.o (by unfold sOK;rw [g1,g2];rfl))
  go_wp2_with (go_at_call 134;refine(zdr _ _ _ _).mono ?_;rintro e w' ⟨rfl,rfl⟩)
  go_roundw
  case rel=>exact⟨k+1,by omega,by go_num,hw1,HV.o⟩
  case measure=>simp [intOf];omega } } }
  {
  go_wp2_with fail;go_ret;have hx:=ht.o;rw [kh (by rw [HN.o];omega)] at hx;exact⟨zap (sigE_ok hle.o hx).symm,hw⟩ } }
theorem zla {t:Tr} (h:inR t.ver 0 1000=false):trE t=3:=by unfold trE;rw [h];rfl
theorem zkd {t:Tr} (h:inR t.ver 0 1000=true):trE t=t.r.e:=by unfold trE;rw [h];rfl
theorem zee (t:Tr) (a:oA) (n c:Nat) (w:World) (h:BI w a n t.r.ks):
 Cq 146 #[trv t.r.v a n c t.r.t t.ver] w fun e w' =>e=.returned (iV (trE t))/\bZ w w' :=by
 have hw0:bZ w (w.alloc (.cells #[iV t.r.v,.slice a n c,iV t.r.t,iV t.ver] 32)):=bA1;have i0:=h.bl hw0;have HK:=uH (fun W (hW:BI W a n t.r.ks)=>zeu t.r.v a n c t.r.t t.r.ks W hW.at_ hW.len hW.max);unfold rv at HK;unfold trv;cases h1:inR t.ver 0 1000
 {
 have HE:=uH (zla h1);go_enter Tryz.func146,Tryz.ntmps146
 go_wp2_with (go_at_call 134;refine(zdr _ _ _ _).mono ?_;rintro e w' ⟨rfl,rfl⟩)
 go_ret;exact⟨zap HE.o.symm,hw0⟩ }
 {
 have HE:=uH (zkd h1);go_enter Tryz.func146,Tryz.ntmps146
 go_wp2_with (first| (go_at_call 134;refine(zdr _ _ _ _).mono ?_;rintro e w' ⟨rfl,rfl⟩)| (go_at_call 216;refine(HK.o _ i0).mono ?_;rintro e w1 ⟨rfl,hb1⟩))
 go_ret;exact⟨zap HE.o.symm,(bT hw0 hb1)⟩ }
end Go.Proofs.YthmekfcgdfckaaaGreatDoor
