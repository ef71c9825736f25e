/- Facts. -/
import Derived.Lib.AtoiTie
import Derived.Lib.AtoiAllCases
import Derived.Lib.SplitLaws
import Derived.Lib.Join
import Derived.Lib.ItoaLen
import Derived.Test.YthmekfcgdfckaaaGreatDoorWz0
import Derived.Lib.SlicesS
import Derived.Test.YthmekfcgdfckaaaGreatDoorMShelf
import Derived.Deep.DeepCutAuto
set_option maxRecDepth 1000000
set_option maxHeartbeats 0
namespace Go.Proofs.YthmekfcgdfckaaaGreatDoor
open Go.RowKit
variable {n k g:Nat} {v u:Int} {s:ByteArray} {sep t:List UInt8} {a:oA} {ks xs:LI} {w w' :World} {ss:LB} {ls:LL}
section
open Go.Lib
def I64 (n:Int):Prop:= -9223372036854775808<=n/\n<=9223372036854775807
theorem zs2 (h:n<256): (UInt8.ofNat n).toNat=n:=by simp [UInt8.toNat_ofNat',Nat.mod_eq_of_lt h]
theorem zte (u:Nat): ∀c∈decDigits u,48<=c.toNat/\c.toNat<=57:=by
 induction u using Nat.strongRecOn with
 |_ u ih=>
  intro c hc;rw [decDigits] at hc
  split at hc
  {
  simp only [List.mem_singleton] at hc;subst hc;rw [zs2 (by omega)];omega }
  {
  simp only [KS,List.mem_singleton] at hc
  rcases hc with hc|hc
  { exact ih _ (by omega) c hc }
  {
  subst hc;rw [zs2 (by omega)];omega } }
theorem zv4 (n:Int): ∀c∈itoa n,c.toNat=45\/(48<=c.toNat/\c.toNat<=57):=by
 intro c hc;unfold itoa at hc
 split at hc
 {
 simp only [kt] at hc
 rcases hc with rfl|hc
 { exact .inl rfl }
 { exact .inr (zte _ c hc) } }
 {
 exact .inr (zte _ c hc) }
theorem itoa_no (n:Int) (c:UInt8) (h:c.toNat<45):c∉itoa n:=fun hc=>by
 have:=zv4 n c hc;omega
theorem dec_ne (u:Nat):decDigits u≠ []:=by
 intro h;have:=decDigits_length u;have p:=nDigits_pos u;rw [h] at this
 simp at this
 omega
theorem zse (r:List UInt8): ∀(l:List UInt8) (acc:Nat),parseUint10 acc (l++r)=match parseUint10 acc l with| .ok a=>parseUint10 a r| .syntax=>.syntax| .range=>.range
 | [],acc=>by simp [parseUint10]
 |c::l,acc=>by
  simp only [List.cons_append,parseUint10]
  split
  {
  split
  { rfl }
  {
  split
  { rfl }
  { exact zse r l _ } } }
  {
  rfl }
theorem parse_dec (u:Nat):u<18446744073709551616->parseUint10 0 (decDigits u)=.ok u:=by
 induction u using Nat.strongRecOn with
 |_ u ih=>
  intro hu;rw [decDigits]
  split
  {
  rename_i h
  simp only [parseUint10];rw [zs2 (by omega)];rw [KK (by omega),KJ (by omega),KJ (by omega)]
  congr 1
  omega }
  {
  rename_i h
  rw [zse,ih (u / 10) (by omega) (by omega)];simp only [parseUint10];rw [zs2 (by omega)];rw [KK (by omega),KJ (by omega),KJ (by omega)]
  congr 1
  omega }
theorem mag_dec (u:Nat) (h:u<18446744073709551616):parseMag (decDigits u)=.ok u:=by
 unfold parseMag;rw [KJ (dec_ne u),parse_dec u h]
theorem atoi_itoa {n:Int} (h:I64 n):atoiAll (itoa n)=.ok n:=by
 obtain ⟨h0,h1⟩:=h;unfold itoa
 split
 {
 rename_i hn
 rw [atoiAll_minus,mag_dec _ (by omega)];simp only [signed];rw [KJ (by omega)]
 congr 1
 omega }
 {
 rename_i hn
 have hb:=zte n.toNat;have hne:=dec_ne n.toNat;have hm:=mag_dec n.toNat (by omega);generalize decDigits n.toNat=l at hb hne hm
 match l,hb,hne,hm with
 |c::r,hb,_,hm=>
  have:=hb c (by simp);rw [atoiAll_plain c r (by omega) (by omega),hm];simp only [signless];rw [KJ (by omega)]
  congr 1
  omega }
def numO (l:List UInt8):Option Int:=match atoiAll l with
 | .ok v=>if itoa v=l then some v else none
 |_=>none
theorem numO_some {l:List UInt8} :numO l=some v↔l=itoa v/\I64 v:=by
 constructor
 {
 intro h;unfold numO at h
 split at h
 {
 rename_i x hx
 split at h
 {
 rename_i e
 cases h;exact⟨e.symm,atoiAll_bounds hx⟩ }
 { cases h } }
 { cases h } }
 {
 rintro ⟨rfl,h⟩;unfold numO;rw [atoi_itoa h]
 simp }
theorem dec_len: ∀(k u:Nat),u<10 ^(k+1)->(decDigits u).length<=k+1
 |0,u,h=>by rw [decDigits_length,nDigits_small (by simpa using h)];exact kQ _
 |k+1,u,h=>by
  by_cases h9:u<10
  { rw [decDigits_length,nDigits_small h9];omega }
  {
  have:=dec_len k (u / 10) (by rw [Nat.pow_succ] at h;omega);rw [decDigits_length] at this|-;rw [nDigits_big h9];omega }
theorem zfl {n:Int} (k:Nat) (h0:0<=n) (h1:n< (10:Int)^(k+1)): (itoa n).length<=k+1:=by
 unfold itoa;rw [KJ (by omega)];refine dec_len k _ ?_;have: ((10 ^(k+1):Nat):Int)= (10:Int)^(k+1):=by simp
 omega
theorem zwe {s:List UInt8} {c:UInt8} (hs:sep=c::t) (h:c∉s):index s sep= -1:=by
 subst hs
 induction s with
 |nil=>rfl
 |cons b l ih=>
  simp only [kt,not_or] at h;unfold index;have h1: (c::t).isPrefixOf (b::l)=false:=by
   simp only [List.isPrefixOf,Bool.and_eq_false_iff,ke];exact .inl h.1
  rw [KJ (by simp [h1]),ih h.2];rfl
theorem index_at {x r:List UInt8} {c:UInt8} (hs:sep=c::t) (h:c∉x):index (x++(sep++r)) sep=x.length:=by
 subst hs
 induction x with
 |nil=>simp [index]
 |cons b l ih=>
  simp only [kt,not_or] at h;simp only [List.cons_append];unfold index;have h1: (c::t).isPrefixOf (b::(l++(c::(t++r))))=false:=by
   simp only [List.isPrefixOf,Bool.and_eq_false_iff,ke];exact .inl h.1
  rw [KJ (by simp [h1])];have ih:=ih h.2;simp only [List.cons_append] at ih;rw [ih,KJ (by simp)]
  simp
theorem zv5 {s:List UInt8} {c:UInt8} (hs:sep=c::t) (h:c∉s):split s sep= [s]:=by
 have:=zwe hs h;unfold split;rw [count_miss this];rfl
theorem split_at {x r:List UInt8} {c:UInt8} (hs:sep=c::t) (h:c∉x):split (x++(sep++r)) sep=x::split r sep:=by
 have hi:=index_at (r:=r) hs h;have hne:sep≠ []:=by rw [hs];simp
 unfold split;rw [count_hit hne hi,Nat.add_comm 1];have hd: (x++(sep++r)).drop (x.length+sep.length)=r:=by
  rw [<-KW,<-kj,List.drop_left]
 rw [hd];have hm: ¬(index (x++(sep++r)) sep== -1)=true:=by rw [hi];simp
 rw [splitK,KJ hm,hi];rw [show((x.length:Int).toNat)=x.length by simp,hd,Nat.add_zero,List.take_left]
theorem zqb (x y:List UInt8) (r:List (List UInt8)) (sep:List UInt8):join (x::y::r) sep=x++(sep++join (y::r) sep):=by
 rw [join_cons,join_cons]
 simp [joinTail]
theorem zt9 {sep:List UInt8} {c:UInt8} {t:List UInt8} (hs:sep=c::t): ∀(xs:List (List UInt8)),xs≠ []->(∀x∈xs,c∉x)->split (join xs sep) sep=xs
 | [],h,_=>absurd rfl h
 | [x],_,h=>by rw [join_one,zv5 hs (h x (by simp))]
 |x::y::r,_,h=>by
  rw [zqb,split_at hs (h x (by simp)),zt9 hs (y::r) (by simp) (fun z hz=>h z (by simp at hz|-;exact .inr hz))]
theorem splitK_ne (sep:List UInt8) (save k:Nat) (s:List UInt8):splitK sep save k s≠ []:=by
 cases k with
 |zero=>simp [splitK]
 |succ k=>unfold splitK;split<;>simp
theorem zv7 {s:List UInt8} {i:Nat} (h:index s sep=i):s=s.take i++(sep++s.drop (i+sep.length)):=by
 rcases index_spec s sep with ⟨h1,_⟩| ⟨j,hj,hle,ho,_⟩
 { rw [h1] at h;omega }
 {
 have:j=i:=by rw [hj] at h;omega
 subst this;have hp:sep<+:s.drop j:=List.isPrefixOf_iff_prefix.1 ho;obtain ⟨r,hr⟩:=hp;have:s.drop (j+sep.length)=r:=by
  rw [<-List.drop_drop,<-hr,List.drop_left]
 rw [this,hr,List.take_append_drop] }
theorem ztv (sep:List UInt8): ∀(k:Nat) (s:List UInt8),join (splitK sep 0 k s) sep=s
 |0,s=>by simp [splitK,join_one]
 |k+1,s=>by
  unfold splitK
  split
  { rw [join_one] }
  {
  rename_i h
  have hge:=index_ge s sep;have hne:index s sep≠ -1:=fun e=>h (by rw [e];rfl)
  have hi:index s sep= ((index s sep).toNat:Int):=by omega
  have ih:=ztv sep k (s.drop ((index s sep).toNat+sep.length));generalize hl:splitK sep 0 k (s.drop ((index s sep).toNat+sep.length))=l at ih
  match l,hl with
  | [],hl=>exact absurd hl (splitK_ne _ _ _ _)
  |y::r,_=>
   rw [zqb,ih,Nat.add_zero];exact(zv7 hi).symm }
theorem zwa (s sep:List UInt8):join (split s sep) sep=s:=ztv sep _ s
end
section
open Go.Lib
abbrev T3:=Int×Int×Int
def semiW:List UInt8:= [59,32]
def relW:List UInt8:= [114,101,108,101,97,115,101,32]
def untW:List UInt8:= [32,117,110,116,105,108,32]
def rootW:List UInt8:= [114,111,111,116,32]
def ofW:List UInt8:= [32,111,102,32]
def imgW:List UInt8:= [105,109,97,103,101,32]
def wr (l:LI):List UInt8:=join (l.map itoa) [32]
def tgtT (t:T3):List UInt8:=wr [t.1,t.2.1,t.2.2]
def headT (v u:Int):List UInt8:=relW++wr [v]++untW++wr [u]
def relT (v u:Int) (ts:List T3):List UInt8:=join (headT v u::ts.map tgtT) semiW
def rootT (v:Int) (ks:LI) (n:Int):List UInt8:=rootW++wr [v,n]++ofW++wr ks
def imgT (w:LI):List UInt8:=imgW++wr w
def I3 (t:T3):Prop:=I64 t.1/\I64 t.2.1/\I64 t.2.2
def allO {α β:Type} (f:α->Option β):List α->Option (List β)
 | []=>some []
 |x::r=>match f x,allO f r with
  |some y,some ys=>some (y::ys)
  |_,_=>none
theorem zth {α β:Type} {f:α->Option β} {g:β->α} {P:β->Prop} (h: ∀x y,f x=some y↔x=g y/\P y): ∀(l:List α) (ys:List β),allO f l=some ys↔l=ys.map g/\∀y∈ys,P y
 | [],ys=>by
  constructor
  · intro e
    cases e
    simp
  · rintro ⟨e,_⟩
    cases ys with
    |nil=>rfl
    |cons y ys=>simp at e
 |x::r,ys=>by
  constructor
  · intro e
    simp only [allO] at e
    split at e
    · rename_i y zs hy hz
      cases e;obtain ⟨rfl,p⟩:=(h _ _).1 hy;obtain ⟨rfl,q⟩:=(zth h r zs).1 hz;exact⟨rfl,fun z hz=>by
       rcases kt.1 hz with rfl|hz
       · exact p
       · exact q z hz⟩
    · cases e
  · rintro ⟨e,p⟩
    cases ys with
    |nil=>simp at e
    |cons y ys=>
     simp only [List.map_cons,List.cons.injEq] at e;obtain ⟨rfl,rfl⟩:=e;simp only [allO];rw [(h _ _).2 ⟨rfl,p y (by simp)⟩,(zth h _ ys).2 ⟨rfl,fun z hz=>p z (by simp [hz])⟩]
theorem zu5 (l:List UInt8) (ys:LI) (hne:ys≠ []):allO numO (split l [32])=some ys↔l=wr ys/\∀y∈ys,I64 y:=by
 rw [zth (g:=itoa) (P:=I64) (fun x y=>numO_some)]
 constructor
 {
 rintro ⟨h,p⟩;refine⟨?_,p⟩;rw [wr,<-h,zwa] }
 {
 rintro ⟨rfl,p⟩;refine⟨?_,p⟩;unfold wr;rw [zt9 (c:=32) (t:= []) rfl _ (by simpa using hne) ?_];intro x hx;obtain ⟨y,_,rfl⟩:=kL.1 hx;exact itoa_no y 32 (by decide) }
def IR (v u:Int) (ts:List T3):Prop:=I64 v/\I64 u/\∀t∈ts,I3 t
theorem wr_inj {a b:LI} (ha:a≠ []) (hb:b≠ []) (pa: ∀x∈a,I64 x) (pb: ∀x∈b,I64 x) (e:wr a=wr b):a=b:=by
 have h1:=(zu5 (wr a) a ha).2 ⟨rfl,pa⟩;have h2:=(zu5 (wr b) b hb).2 ⟨rfl,pb⟩;rw [e,h2] at h1;exact(kJ h1).symm
theorem imgT_inj {a b:LI} (ha:a≠ []) (hb:b≠ []) (pa: ∀x∈a,I64 x) (pb: ∀x∈b,I64 x) (e:imgT a=imgT b):a=b:=
 wr_inj ha hb pa pb (List.append_cancel_left e)
theorem zi1 (k m:Nat): ∀(xs:List (List UInt8)) (sep:List UInt8),sep.length<=m->(∀x∈xs,x.length<=k)->(join xs sep).length<=xs.length *(k+m)
 | [],_,_,_=>by simp [join_nil]
 | [x],_,_,h=>by rw [join_one];have:=h x (by simp);simp;omega
 |x::y::r,sep,hm,h=>by
  rw [zqb];have:=zi1 k m (y::r) sep hm (fun z hz=>h z (by simp at hz|-;exact .inr hz));have:=h x (by simp);simp only [kj,KX] at *;rw [Nat.add_mul (r.length+1) 1];omega
theorem wr_len (k:Nat) (l:LI) (h: ∀x∈l,(itoa x).length<=k): (wr l).length<=l.length *(k+1):=by
 have:=zi1 k 1 (l.map itoa) [32] (by simp) (fun x hx=>by obtain ⟨y,hy,rfl⟩:=kL.1 hx;exact h y hy)
 simpa [wr] using this
end
section
open Go.Lib
def inR (n a b:Int):Bool:=decide (a<=n/\n<=b)
theorem inR_t {n a b:Int} (h0:a<=n) (h1:n<=b):inR n a b=true:=by unfold inR;simp;omega
theorem inR_lo {n a b:Int} (h0: ¬a<=n):inR n a b=false:=by unfold inR;simp;omega
theorem inR_hi {n a b:Int} (h0: ¬n<=b):inR n a b=false:=by unfold inR;simp;omega
theorem zd1 {n a b:Int}:inR n a b=true↔a<=n/\n<=b:=by unfold inR;simp
def keysE (ahead:Int):LI->Int
 | []=>0
 |k::r=>if inR k 1 50 then(if k<=ahead then 6 else keysE k r) else 3
def rootE (v:Int) (ks:LI) (n:Int):Int:=
 if inR v 1 1000 then(if inR ks.length 1 6 then(if keysE 0 ks=0 then(if inR n 1 ks.length then 0 else 4) else keysE 0 ks) else 2) else 3
def tOK (i:Nat) (t:T3):Bool:=inR t.1 i i&&inR t.2.1 1 60&&inR t.2.2 1 40
def tgtsE (i:Nat):List T3->Int
 | []=>0
 |t::r=>if tOK i t then tgtsE (i+1) r else 3
def relE (v u:Int) (ts:List T3):Int:=
 if inR v 1 1000&&inR u 0 100000 then(if inR ts.length 1 4 then tgtsE 0 ts else 2) else 3
def wordB (n:Int):Bool:=decide (0<=n/\n<=65535)
def imgE (w:LI):Int:=if inR w.length 1 40 then(if w.all wordB then 0 else 3) else 2
def nameN (ss:LB) (s:ByteArray):Nat:=match ss with
 | []=>0
 |t::r=>if t=s then 1 else if nameN r s=0 then 0 else nameN r s+1
def zcc (seen:LB):LB->Int
 | []=>0
 |s::r=>if 2000<s.size then 2 else if nameN seen s=0 then zcc (seen++ [s]) r else 6
def bookE (ss:LB):Int:=if 60<ss.length then 2 else zcc [] ss
theorem zft {n:Int} (h:rootE v ks n=0): (1<=v/\v<=1000)/\(1<=ks.length/\ks.length<=6)/\1<=n/\n<=ks.length/\keysE 0 ks=0:=by
 unfold rootE at h
 split at h
 {
 rename_i h1
 split at h
 {
 rename_i h2
 split at h
 {
 rename_i h3
 split at h
 {
 rename_i h4
 rw [zd1] at h1 h2 h4;exact⟨h1,by omega,h4.1,h4.2,h3⟩ }
 { cases h } }
 { contradiction } }
 { cases h } }
 {
 cases h }
theorem keys_in : ∀{a:Int},keysE a ks=0->∀k∈ks,1<=k/\k<=50:=by
 induction ks with
 |nil=>intro a _ k hk;cases hk
 |cons x r ih=>
  intro a h k hk;unfold keysE at h
  split at h
  {
  rename_i h1
  split at h
  { cases h }
  {
  rw [zd1] at h1
  rcases kt.1 hk with rfl|hk
  { exact h1 }
  { exact ih h k hk } } }
  {
  cases h }
theorem tgts_in {ts:List T3}: ∀{i:Nat},tgtsE i ts=0->∀t∈ts,(0<=t.1/\t.1<i+ts.length)/\(1<=t.2.1/\t.2.1<=60)/\1<=t.2.2/\t.2.2<=40:=by
 induction ts with
 |nil=>intro i _ t ht;cases ht
 |cons x r ih=>
  intro i h t ht;unfold tgtsE at h
  split at h
  {
  rename_i h1
  rcases kt.1 ht with rfl|ht
  {
  simp only [tOK,kr,zd1] at h1;simp only [KX];omega }
  {
  have:=ih h t ht;simp only [KX];omega } }
  {
  cases h }
theorem zk4 {ts:List T3} (h:relE v u ts=0): (1<=v/\v<=1000)/\(0<=u/\u<=100000)/\(1<=ts.length/\ts.length<=4)/\tgtsE 0 ts=0:=by
 unfold relE at h
 split at h
 {
 rename_i h1
 split at h
 {
 rename_i h2
 simp only [kr,zd1] at h1 h2;exact⟨h1.1,h1.2,by omega,h⟩ }
 { cases h } }
 {
 cases h }
theorem relE_IR {ts:List T3} (h:relE v u ts=0):IR v u ts:=by
 obtain ⟨h1,h2,h3,h4⟩:=zk4 h;refine⟨⟨by omega,by omega⟩,⟨by omega,by omega⟩,fun t ht=> ?_⟩;have:=tgts_in h4 t ht;exact⟨⟨by omega,by omega⟩,⟨by omega,by omega⟩,⟨by omega,by omega⟩⟩
theorem zlv {w:LI} (h:imgE w=0): (1<=w.length/\w.length<=40)/\∀x∈w,0<=x/\x<=65535:=by
 unfold imgE at h
 split at h
 {
 rename_i h1
 split at h
 {
 rename_i h2
 rw [zd1] at h1;refine⟨by omega,fun x hx=> ?_⟩;have:=kH.1 h2 x hx
 simpa [wordB] using this }
 { cases h } }
 {
 cases h }
theorem relT_len {ts:List T3} (h:relE v u ts=0): (relT v u ts).length<=2000:=by
 obtain ⟨h1,h2,h3,h4⟩:=zk4 h;have e1: ∀n:Int,(wr [n]).length= (itoa n).length:=fun n=>by unfold wr;rw [List.map_cons,List.map_nil,join_one]
 have a1:=zfl (n:=v) 5 (by omega) (by omega);have a2:=zfl (n:=u) 5 (by omega) (by omega);have hd: (headT v u).length<=100:=by
  unfold headT;simp only [kj,e1];have:relW.length=8:=rfl;have:untW.length=7:=rfl;omega
 have:=zi1 100 2 (headT v u::ts.map tgtT) semiW (by decide) (fun x hx=>by
  rcases kt.1 hx with rfl|hx
  · exact hd
  · obtain ⟨t,ht,rfl⟩:=kL.1 hx
    have q:=tgts_in h4 t ht;have b1:=zfl (n:=t.1) 5 (by omega) (by omega);have b2:=zfl (n:=t.2.1) 5 (by omega) (by omega);have b3:=zfl (n:=t.2.2) 5 (by omega) (by omega);have:=wr_len 6 [t.1,t.2.1,t.2.2] (fun x hx=>by simp at hx;rcases hx with rfl|rfl|rfl<;>omega)
    simp at this
    unfold tgtT;omega)
 simp only [KX,Kr] at this;unfold relT;have: (ts.length+1)*(100+2)<=5 * 102:=Nat.mul_le_mul (by omega) (by omega);omega
theorem zp6 :nameN ss s=0↔s∉ss:=by
 induction ss with
 |nil=>simp [nameN]
 |cons t r ih=>
  unfold nameN
  by_cases h:t=s
  { simp [h] }
  {
  rw [KJ h]
  by_cases h0:nameN r s=0
  {
  rw [KK h0];simp only [kt,not_or,true_iff];exact⟨fun e=>h e.symm,ih.1 h0⟩ }
  {
  rw [KJ h0];have:s∈r:=ky fun hn=>h0 (ih.2 hn)
  simp [this] } }
theorem zvo :nameN ss s=n+1->ss[n]?=some s:=by
 induction ss generalizing n with
 |nil=>intro h;simp [nameN] at h
 |cons t r ih=>
  intro h;unfold nameN at h
  split at h
  {
  rename_i e
  have:n=0:=by omega
  subst this
  simp [e] }
  {
  split at h
  { cases h }
  {
  rename_i h0
  cases n with
  |zero=>omega
  |succ n=>simpa using ih (n:=n) (by omega) } }
theorem zoc (ss:LB) (s:ByteArray):nameN ss s<=ss.length:=by
 induction ss with
 |nil=>simp [nameN]
 |cons t r ih=>
  unfold nameN
  split
  { simp }
  {
  split
  { simp }
  {
  simp;omega } }
theorem zqc : ∀{k:Nat},s∉ss.take k->nameN ss s=if nameN (ss.drop k) s=0 then 0 else nameN (ss.drop k) s+k:=by
 induction ss with
 |nil=>intro k _;simp [nameN]
 |cons t r ih=>
  intro k hk;cases k with
  |zero=>simp
  |succ k=>
   simp only [List.take_succ_cons,kt,not_or] at hk;simp only [List.drop_succ_cons];rw [nameN,KJ (fun e=>hk.1 e.symm),ih hk.2]
   split
   { simp }
   {
   rename_i h
   rw [KJ (by omega)];omega }
theorem nameN_hit (h:s∉ss.take k) (hk:ss[k]?=some s):nameN ss s=k+1:=by
 rw [zqc h];have:ss.drop k=s::ss.drop (k+1):=by
  obtain ⟨hl,e⟩:=kY.1 hk;rw [kq hl,e]
 rw [this]
 simp [nameN]
 omega
end
def za1 (w:World) (a:oA) (ss:LB):Prop:=
 ss= []\/∃b off,a=some ⟨b,off,none⟩/\∀i,i<ss.length->w.cell? ⟨b,off+i,none⟩=some (.string (ss.getD i ByteArray.empty))
theorem za1.bl (h:za1 w a ss) (hb:bZ w w'):za1 w' a ss:=by
 rcases h with h| ⟨b,off,rfl,hc⟩
 { exact .inl h }
 {
 exact .inr ⟨b,off,rfl,fun i hi=>by rw [hb.cell (zah (hc i hi))];exact hc i hi⟩ }
theorem za1.alloc (h:za1 w a ss) (o:Obj):za1 (w.alloc o) a ss:=
 h.bl (bA1)
theorem za1.take (h:za1 w a ss) (k:Nat):za1 w a (ss.take k):=by
 rcases h with rfl| ⟨b,off,rfl,hc⟩
 { exact .inl (by simp) }
 {
 refine .inr ⟨b,off,rfl,fun i hi=> ?_⟩
 simp at hi
 rw [hc i (by omega)]
 simp [show i<k by omega] }
def svals (ss:LB):LV:=ss.map Value.string
def za4 (w:World) (g:Nat) (ss:LB):Prop:=w.heap[g]?=some (.cells (svals ss).toArray 9 (0,0))
theorem za4.cell (h:za4 w g ss) (i:Nat) (hi:i<ss.length):w.cell? ⟨g,i,none⟩=some (.string (ss.getD i ByteArray.empty)):=by
 unfold za4 at h
 simp [World.cell?,h,svals,hi]
theorem za4.free (h:za4 w g ss) (i:Nat):w.frozen? ⟨g,i,none⟩=false:=by
 unfold za4 at h
 simp [World.frozen?,h]
theorem za4.isStrs (h:za4 w g ss):za1 w (some ⟨g,0,none⟩) ss:=
 .inr ⟨g,0,rfl,fun i hi=>by rw [Kl];exact h.cell i hi⟩
theorem za4.lt (h:za4 w g ss):g<w.heap.size:=(Kh.1 h).1
theorem za4.bl {B:Nat} (h:za4 w g ss) (hb:Below B w w') (hg:g<B):za4 w' g ss:=by
 unfold za4;rw [hb.block g hg];exact h
theorem za4.set (h:za4 w g ss) (i:Nat) (s:ByteArray):za4 (w.setCell ⟨g,i,none⟩ (.string s)) g (ss.set i s):=by
 unfold za4 at h|-;simp only [World.setCell,KP]
 simp [h,svals]
theorem zna: (Tryz.prog.info? 9).map (fun i=>(i.zero,i.size,i.bytes))=some (some (.string ByteArray.empty),1,16):=by kernel_rfl
theorem zqr (n:Nat):madeCells (Value.string ByteArray.empty).cells n= (svals (List.replicate n ByteArray.empty)).toArray:=by
 apply Array.toList_inj.1
 show(madeCells #[Value.string ByteArray.empty] n).toList=_
 rw [toList_madeCells_one]
 simp [svals]
theorem make_strs (n:Nat) (w:World) (h:n * 16<=281474976710656):
 (Instr.makeSlice 22 (iV n) (iV n)).run Tryz.prog w=.ok (sV w.heap.size n n) (w.alloc (.cells (svals (List.replicate n ByteArray.empty)).toArray 9)):=by
 obtain ⟨i0,hi,hz0,hz1,hz2⟩:=info_parts zna;have:=run_make (P:=Tryz.prog) w 22 9 i0 (.string ByteArray.empty) Tryz.underlying22 hi hz0 .i64 .i64 n n (by omega) (by omega) (by rw [hz2];omega) (by omega);rw [hz1,kp,Ko,zqr] at this;exact this
def zj8 (t:T3):LV:= [iV t.1,iV t.2.1,iV t.2.2]
def tv (t:T3):Value:=.agg #[iV t.1,iV t.2.1,iV t.2.2]
def zbm (w:World) (a:oA) (ts:List T3):Prop:=
 ts= []\/∃b off,a=some ⟨b,off,none⟩/\∀i t,ts[i]?=some t->
  w.cell? ⟨b,off+i * 3,none⟩=some (iV t.1)/\w.cell? ⟨b,off+i * 3+1,none⟩=some (iV t.2.1)/\w.cell? ⟨b,off+i * 3+2,none⟩=some (iV t.2.2)
theorem zbm.bl {ts:List T3} (h:zbm w a ts) (hb:bZ w w'):zbm w' a ts:=by
 rcases h with h| ⟨b,off,rfl,hc⟩
 { exact .inl h }
 {
 refine .inr ⟨b,off,rfl,fun i t hi=> ?_⟩;obtain ⟨h1,h2,h3⟩:=hc i t hi;exact⟨by rw [hb.cell (zah h1)];exact h1,by rw [hb.cell (zah h2)];exact h2,by rw [hb.cell (zah h3)];exact h3⟩ }
theorem zbm.alloc {ts:List T3} (h:zbm w a ts) (o:Obj):zbm (w.alloc o) a ts:=
 h.bl (bA1)
theorem za2 (n a b:Int) (w:World):Cq 229 #[iV n,iV a,iV b] w fun e w' =>e=.returned (.bool (inR n a b))/\w' =w:=by
 by_cases h0:a<=n
 {
 by_cases h1:n<=b
 {
 have hd:decide (n<=b)=true:=by simp;omega
 go_enter Tryz.func229,Tryz.ntmps229;go_wp2;go_ret;exact⟨zan (inR_t h0 h1).symm,rfl⟩ }
 {
 have hd:decide (n<=b)=false:=by simp;omega
 go_enter Tryz.func229,Tryz.ntmps229;go_wp2;go_ret;exact⟨zan (inR_hi (by omega)).symm,rfl⟩ } }
 {
 go_enter Tryz.func229,Tryz.ntmps229;go_wp2;go_ret;exact⟨zan (inR_lo (by omega)).symm,rfl⟩ }
theorem zmv (hk:k<ss.length) (h:s∉ss.take k) (hne: ¬s=ss[k]):s∉ss.take (k+1):=by
 rw [kl hk];simp only [KS,List.mem_singleton,not_or];exact⟨h,hne⟩
theorem zgv (a:oA) (n c:Nat) (ss:LB) (s:ByteArray) (w:World) (h:za1 w a ss) (hn:ss.length=n) (hm:n<=maxLen):
 Cq 100 #[.slice a n c,.string s] w fun e w' =>e=.returned (iV ((nameN ss s:Int)- 1))/\w' =w:=by
 unfold maxLen at hm;have HN:Hd (ss.length=n):=hn;go_enter Tryz.func100,Tryz.ntmps100;go_wp2
 go_loop [8] (fun i=>∃k:Nat,k<=n/\i=iV k/\Hd (s∉ss.take k)) (fun i=>n - (intOf i).toNat)
 case atStart=>exact⟨0,KG _,rfl,by show _∉_;simp⟩
 case round=>
  obtain ⟨k,hk,rfl,ht⟩:=hrel
  by_cases hlt:k<n
  {
  rcases h with rfl| ⟨b0,o0,rfl,hc0⟩
  { simp at hn;omega }
  have hkx:k<ss.length:=by omega
  have e0:=hc0 k hkx;rw [show ss.getD k ByteArray.empty=ss[k] by simp [hkx]] at e0;clear hn hc0
  by_cases he:s=ss[k]
  {
  have hb: (s.toList==ss[k].toList)=true:=(Lib.bytes_beq_iff _ _).2 he;have HE:=uH he;clear he;go_wp2;go_ret;refine⟨?_,rfl⟩;rw [nameN_hit ht.o (by rw [kX hkx,<-HE.o]),show(((k+1:Nat):Int)- 1)= (k:Int) by omega];rfl }
  {
  have hb: (s.toList==ss[k].toList)=false:=(Lib.bytes_beq_false_iff _ _).2 he;have HE:=uH he;clear he;go_wp2
  go_round
  case rel=>exact⟨k+1,by omega,by go_num,zmv hkx ht.o HE.o⟩
  case measure=>simp [intOf];omega } }
  {
  go_wp2;go_ret;have hx:=ht.o;rw [kh (by omega)] at hx;rw [zp6.2 hx];exact⟨rfl,rfl⟩ }
def hasB (ss:LB) (s:ByteArray):Bool:=decide (nameN ss s≠0)
theorem zmt (a:oA) (n c:Nat) (ss:LB) (s:ByteArray) (w:World) (h:za1 w a ss) (hn:ss.length=n) (hm:n<=maxLen):
 Cq 133 #[.slice a n c,.string s] w fun e w' =>e=.returned (.bool (hasB ss s))/\w' =w:=by
 have hc:=uH (zgv a n c ss s w h hn hm);have hd:decide (0<=((nameN ss s:Int)- 1))=hasB ss s:=by
  unfold hasB;rw [decide_eq_decide];omega
 generalize hq: ((nameN ss s:Int)- 1)=q at hc hd;clear hn hq;go_enter Tryz.func133,Tryz.ntmps133;go_wp2_with fail;refine(zae hc).mono ?_;rintro e w' ⟨rfl,rfl⟩;go_wp2;go_ret;exact⟨rfl,rfl⟩
theorem keysE_bad (hk:k<xs.length) (a:Int) (h:inR xs[k] 1 50=false):keysE a (xs.drop k)=3:=by
 rw [kq hk]
 simp [keysE,h]
theorem keysE_two (hk:k<xs.length) (a:Int) (h:inR xs[k] 1 50=true) (h2:xs[k]<=a):keysE a (xs.drop k)=6:=by
 rw [kq hk]
 simp [keysE,h,h2]
theorem zp2 (hk:k<xs.length) (a:Int) (h:inR xs[k] 1 50=true) (h2: ¬xs[k]<=a):keysE a (xs.drop k)=keysE xs[k] (xs.drop (k+1)):=by
 rw [kq hk]
 simp [keysE,h,h2]
theorem zap {a b:Int} (h:a=b):Ending.returned (iV a)=.returned (iV b):=by rw [h]
theorem zmu (a:oA) (n c:Nat) (xs:LI) (w:World) (h:zag w a xs) (hn:xs.length=n) (hm:n<=maxLen):
 Cq 262 #[.slice a n c] w fun e w' =>e=.returned (iV (keysE 0 xs))/\w' =w:=by
 unfold maxLen at hm;have HN:Hd (xs.length=n):=hn;go_enter Tryz.func262,Tryz.ntmps262;go_wp2
 go_loop [3,8] (fun p i=>∃(k:Nat) (q:Int),k<=n/\p=iV q/\i=iV k/\Hd (keysE q (xs.drop k)=keysE 0 xs)) (fun _ i=>n - (intOf i).toNat)
 case atStart=>exact⟨0,0,KG _,rfl,rfl,rfl⟩
 case round=>
  obtain ⟨k,q,hk,rfl,rfl,ht⟩:=hrel
  by_cases hlt:k<n
  {
  rcases h with rfl| ⟨b0,o0,rfl,hc0⟩
  { simp at hn;omega }
  have hkx:k<xs.length:=by omega
  have e0:=hc0 k hkx;rw [show xs.getD k 0=xs[k] by simp [hkx]] at e0;clear hn hc0;go_wp2_with fail;refine(za2 _ _ _ _).mono ?_;rintro e w' ⟨rfl,rfl⟩;cases hv:inR xs[k] 1 50
  {
  have HV:=uH hv;clear hv;go_wp2_with fail;go_ret;exact⟨zap (by rw [<-ht.o,keysE_bad hkx _ HV.o]),rfl⟩ }
  {
  have HV:=uH hv;clear hv
  by_cases hq:xs[k]<=q
  {
  go_wp2_with fail;go_ret;exact⟨zap (by rw [<-ht.o,keysE_two hkx _ HV.o hq]),rfl⟩ }
  {
  have hd:decide (xs[k]<=q)=false:=by simp;omega
  go_wp2_with fail
  go_round
  case rel=>exact⟨k+1,xs[k],by omega,rfl,by go_num,by show _=_;rw [<-ht.o,zp2 hkx _ HV.o (by omega)]⟩
  case measure=>simp [intOf];omega } } }
  {
  go_wp2_with fail;go_ret;have hx:=ht.o;rw [Kj (by omega)] at hx;exact⟨zap (by rw [<-hx];rfl),rfl⟩ }
theorem zlw {t:Int} (h1:inR v 1 1000=false):rootE v ks t=3:=by simp [rootE,h1]
theorem zle {t:Int} (h1:inR v 1 1000=true) (h2:inR ks.length 1 6=false):rootE v ks t=2:=by simp [rootE,h1,h2]
theorem rootE_3 {t:Int} (h1:inR v 1 1000=true) (h2:inR ks.length 1 6=true) (h3:keysE 0 ks≠0):rootE v ks t=keysE 0 ks:=by simp [rootE,h1,h2,h3]
theorem rootE_4 {t:Int} (h1:inR v 1 1000=true) (h2:inR ks.length 1 6=true) (h3:keysE 0 ks=0) (h4:inR t 1 ks.length=false):rootE v ks t=4:=by simp [rootE,h1,h2,h3,h4]
theorem rootE_0 {t:Int} (h1:inR v 1 1000=true) (h2:inR ks.length 1 6=true) (h3:keysE 0 ks=0) (h4:inR t 1 ks.length=true):rootE v ks t=0:=by simp [rootE,h1,h2,h3,h4]
def rv (v:Int) (a:oA) (n c:Nat) (t:Int):Value:=.agg #[iV v,.slice a n c,iV t]
theorem zeu (v:Int) (a:oA) (n c:Nat) (t:Int) (xs:LI) (w:World) (h:zag w a xs) (hn:xs.length=n) (hm:n<=maxLen):
 Cq 216 #[rv v a n c t] w fun e w' =>e=.returned (iV (rootE v xs t))/\bZ w w' :=by
 have HN:=uH hn;have HK:=uH (fun W (hW:zag W a xs)=>zmu a n c xs W hW hn hm);unfold maxLen at hm;unfold rv;clear hn;cases h1:inR v 1 1000
 {
 go_enter Tryz.func216,Tryz.ntmps216
 go_wp2_with (go_at_call 229;refine(za2 _ _ _ _).mono ?_;rintro e w' ⟨rfl,rfl⟩)
 go_ret;exact⟨zap (zlw h1).symm,bA1⟩ }
 {
 cases h2:inR (n:Int) 1 6
 {
 go_enter Tryz.func216,Tryz.ntmps216
 go_wp2_with (go_at_call 229;refine(za2 _ _ _ _).mono ?_;rintro e w' ⟨rfl,rfl⟩)
 go_ret;exact⟨zap (zle h1 (by rw [HN.o];exact h2)).symm,bA1⟩ }
 {
 by_cases h3:keysE 0 xs=0
 {
 cases h4:inR t 1 n
 {
 go_enter Tryz.func216,Tryz.ntmps216
 go_wp2_with (first
  | (go_at_call 229;refine(za2 _ _ _ _).mono ?_;rintro e w' ⟨rfl,rfl⟩)
  | (go_at_call 262;refine(HK.o _ (h.alloc _)).mono ?_;rintro e w' ⟨rfl,rfl⟩))
 go_ret;exact⟨zap (rootE_4 h1 (by rw [HN.o];exact h2) h3 (by rw [HN.o];exact h4)).symm,bA1⟩ }
 {
 go_enter Tryz.func216,Tryz.ntmps216
 go_wp2_with (first
  | (go_at_call 229;refine(za2 _ _ _ _).mono ?_;rintro e w' ⟨rfl,rfl⟩)
  | (go_at_call 262;refine(HK.o _ (h.alloc _)).mono ?_;rintro e w' ⟨rfl,rfl⟩))
 go_ret;exact⟨zap (rootE_0 h1 (by rw [HN.o];exact h2) h3 (by rw [HN.o];exact h4)).symm,bA1⟩ } }
 {
 have hb: (keysE 0 xs !=0)=true:=by simpa using h3
 have H3:=uH h3;have HE:=uH (rootE_3 (t:=t) h1 (by rw [HN.o];exact h2) h3);clear h3;generalize keysE 0 xs=q at HK hb HE;go_enter Tryz.func216,Tryz.ntmps216
 go_wp2_with (first
  | (go_at_call 229;refine(za2 _ _ _ _).mono ?_;rintro e w' ⟨rfl,rfl⟩)
  | (go_at_call 262;refine(HK.o _ (h.alloc _)).mono ?_;rintro e w' ⟨rfl,rfl⟩))
 go_ret;exact⟨zap HE.o.symm,bA1⟩ } } }
theorem zl6 (t:T3) (w:World):Cq 170 #[tv t] w fun e w' =>e=.returned (tv t)/\bZ w w' :=by
 unfold tv;go_enter Tryz.func170,Tryz.ntmps170;go_wp2;refine kT (v:=.agg #[iV t.1,iV t.2.1,iV t.2.2]) (by simp [results,Tryz.results170,go_sem]) rfl ⟨rfl, ?_⟩;exact bA2
def preB (p:Nat) (t:T3) (k:Nat):Bool:=(decide (k<=0)||inR t.1 p p)&&(decide (k<=1)||inR t.2.1 1 60)&&(decide (k<=2)||inR t.2.2 1 40)
theorem ix0 (a b c:Int) (W:World): (Instr.index 226 (.agg #[iV a,iV b,iV c]) (iV 0)).run Tryz.prog W=.ok (iV a) W:=by kernel_rfl
theorem ix1 (a b c:Int) (W:World): (Instr.index 226 (.agg #[iV a,iV b,iV c]) (iV 1)).run Tryz.prog W=.ok (iV b) W:=by kernel_rfl
theorem ix2 (a b c:Int) (W:World): (Instr.index 226 (.agg #[iV a,iV b,iV c]) (iV 2)).run Tryz.prog W=.ok (iV c) W:=by kernel_rfl
def bnds (p:Nat):Obj:=.cells #[iV p,iV p,iV 1,iV 60,iV 1,iV 40] 315
theorem znu (t:T3) (p:Nat) (w:World):
 Cq 230 #[tv t,iV p] w fun e w' =>e=.returned (.bool (tOK p t))/\bZ w w' :=by
 have HR:=uH (fun W=>zl6 t W);unfold tv;unfold tv at HR;go_enter Tryz.func230,Tryz.ntmps230;go_wp2_with fail;have hw:bZ w ((w.alloc (.cells #[iV t.1,iV t.2.1,iV t.2.2] 163)).alloc (bnds p)):=bA2;have b0:=uH (kP (w.alloc (.cells #[iV t.1,iV t.2.1,iV t.2.2] 163)) (bnds p));rw [KB] at b0;unfold bnds at b0 hw;generalize (w.alloc (.cells #[iV t.1,iV t.2.1,iV t.2.2] 163)).alloc (.cells #[iV p,iV p,iV 1,iV 60,iV 1,iV 40] 315)=W at *;refine(zae HR _).mono ?_;rintro e w1 ⟨rfl,hb1⟩;replace b0:=uH (zab b0.o hb1);replace hw:=bT hw hb1;clear hb1;go_wp2_with fail
 go_loopw [16] (fun i wr=>∃k:Nat,k<=3/\i=iV k/\bZ w wr/\Hd (wr.heap[w.heap.size+1]?=some (.cells #[iV p,iV p,iV 1,iV 60,iV 1,iV 40] 315 (0,0)))/\Hd (preB p t k=true)) (fun i _=>3 - (intOf i).toNat)
 case atStart=>exact⟨0,by decide,rfl,hw,b0,by show _=_;simp [preB]⟩
 case round=>
  clear hw b0;obtain ⟨k,hk,rfl,hw,b0,ht⟩:=hrel;have c0:=zaa b0.o 0 _ rfl;have c1:=zaa b0.o 1 _ rfl;have c2:=zaa b0.o 2 _ rfl;have c3:=zaa b0.o 3 _ rfl;have c4:=zaa b0.o 4 _ rfl;have c5:=zaa b0.o 5 _ rfl;have hk' :k=0\/k=1\/k=2\/k=3:=by omega
  rcases hk' with rfl|rfl|rfl|rfl
  {
  have hix:=fun W=>ix0 t.1 t.2.1 t.2.2 W
  cases hv:inR t.1 p p
  {
  have HV:=uH hv;go_wp2_with fail;go_quiet ((go_at_call 229;refine Calls.quiet_of_same (za2 _ _ _ _)));go_wp2_with fail;go_ret;exact⟨zan (by simp [tOK,HV.o]),kA hw _⟩ }
  {
  have HV:=uH hv;go_wp2_with fail;go_quiet ((go_at_call 229;refine Calls.quiet_of_same (za2 _ _ _ _)));go_wp2_with fail
  go_roundw
  case rel=>exact⟨1,by decide,rfl,kA hw _,b0,by show _=_;simp [preB,HV.o]⟩
  case measure=>simp [intOf] } }
  {
  have hix:=fun W=>ix1 t.1 t.2.1 t.2.2 W
  have h0:=uH (show inR t.1 p p=true by have:=ht.o;simpa [preB] using this);cases hv:inR t.2.1 1 60
  {
  have HV:=uH hv;go_wp2_with fail;go_quiet ((go_at_call 229;refine Calls.quiet_of_same (za2 _ _ _ _)));go_wp2_with fail;go_ret;exact⟨zan (by simp [tOK,HV.o]),kA hw _⟩ }
  {
  have HV:=uH hv;go_wp2_with fail;go_quiet ((go_at_call 229;refine Calls.quiet_of_same (za2 _ _ _ _)));go_wp2_with fail
  go_roundw
  case rel=>exact⟨2,by decide,rfl,kA hw _,b0,by show _=_;simp [preB,HV.o,h0.o]⟩
  case measure=>simp [intOf] } }
  {
  have hix:=fun W=>ix2 t.1 t.2.1 t.2.2 W
  have h0:=uH (show inR t.1 p p=true/\inR t.2.1 1 60=true by have:=ht.o;simpa [preB] using this);cases hv:inR t.2.2 1 40
  {
  have HV:=uH hv;go_wp2_with fail;go_quiet ((go_at_call 229;refine Calls.quiet_of_same (za2 _ _ _ _)));go_wp2_with fail;go_ret;exact⟨zan (by simp [tOK,HV.o]),kA hw _⟩ }
  {
  have HV:=uH hv;go_wp2_with fail;go_quiet ((go_at_call 229;refine Calls.quiet_of_same (za2 _ _ _ _)));go_wp2_with fail
  go_roundw
  case rel=>exact⟨3,by decide,rfl,kA hw _,b0,by show _=_;simp [preB,HV.o,h0.o.1,h0.o.2]⟩
  case measure=>simp [intOf] } }
  {
  have h0:=uH (show(inR t.1 p p=true/\inR t.2.1 1 60=true)/\inR t.2.2 1 40=true by have:=ht.o;simpa [preB] using this);go_wp2_with fail;go_ret;exact⟨zan (by simp [tOK,h0.o.1.1,h0.o.1.2,h0.o.2]),hw⟩ }
theorem relE_1 {ts:List T3} (h1:inR v 1 1000=false):relE v u ts=3:=by simp [relE,h1]
theorem relE_2 {ts:List T3} (h1:inR u 0 100000=false):relE v u ts=3:=by simp [relE,h1]
theorem relE_3 {ts:List T3} (h1:inR v 1 1000=true) (h2:inR u 0 100000=true) (h3:inR ts.length 1 4=false):relE v u ts=2:=by simp [relE,h1,h2,h3]
theorem relE_4 {ts:List T3} (h1:inR v 1 1000=true) (h2:inR u 0 100000=true) (h3:inR ts.length 1 4=true):relE v u ts=tgtsE 0 ts:=by simp [relE,h1,h2,h3]
theorem tgtsE_bad {ts:List T3} (hk:k<ts.length) (h:tOK k ts[k]=false):tgtsE k (ts.drop k)=3:=by
 rw [kq hk]
 simp [tgtsE,h]
theorem zqe {ts:List T3} (hk:k<ts.length) (h:tOK k ts[k]=true):tgtsE k (ts.drop k)=tgtsE (k+1) (ts.drop (k+1)):=by
 rw [kq hk]
 simp [tgtsE,h]
def relv (v u:Int) (a:oA) (n c:Nat):Value:=.agg #[iV v,iV u,.slice a n c]
theorem zff (v u:Int) (a:oA) (n c:Nat) (ts:List T3) (w:World) (h:zbm w a ts) (hn:ts.length=n) (hm:n<=maxLen):
 Cq 169 #[relv v u a n c] w fun e w' =>e=.returned (iV (relE v u ts))/\bZ w w' :=by
 have HN:=uH hn;unfold maxLen at hm;unfold relv;clear hn;cases h1:inR v 1 1000
 {
 go_enter Tryz.func169,Tryz.ntmps169
 go_wp2_with (go_at_call 229;refine(za2 _ _ _ _).mono ?_;rintro e w' ⟨rfl,rfl⟩)
 go_ret;exact⟨zap (relE_1 h1).symm,bA1⟩ }
 {
 cases h2:inR u 0 100000
 {
 go_enter Tryz.func169,Tryz.ntmps169
 go_wp2_with (go_at_call 229;refine(za2 _ _ _ _).mono ?_;rintro e w' ⟨rfl,rfl⟩)
 go_ret;exact⟨zap (relE_2 h2).symm,bA1⟩ }
 {
 cases h3:inR (n:Int) 1 4
 {
 go_enter Tryz.func169,Tryz.ntmps169
 go_wp2_with (go_at_call 229;refine(za2 _ _ _ _).mono ?_;rintro e w' ⟨rfl,rfl⟩)
 go_ret;exact⟨zap (relE_3 h1 h2 (by rw [HN.o];exact h3)).symm,bA1⟩ }
 {
 have HE:=uH (relE_4 h1 h2 (ts:=ts) (by rw [HN.o];exact h3));have hw0:bZ w (w.alloc (.cells #[iV v,iV u,.slice a n c] 45)):=bA1;go_enter Tryz.func169,Tryz.ntmps169
 go_wp2_with (go_at_call 229;refine(za2 _ _ _ _).mono ?_;rintro e w' ⟨rfl,rfl⟩)
 go_loopw [23] (fun i wr=>∃k:Nat,k<=n/\i=iV k/\bZ w wr/\Hd (tgtsE k (ts.drop k)=tgtsE 0 ts)) (fun i _=>n - (intOf i).toNat)
 case atStart=>exact⟨0,KG _,rfl,hw0,rfl⟩
 case round=>
  clear hw0;obtain ⟨k,hk,rfl,hw,ht⟩:=hrel
  by_cases hlt:k<n
  {
  have i1:=h.bl hw
  rcases i1 with rfl| ⟨b0,o0,rfl,hc0⟩
  {
  have:=HN.o
  simp at this
  omega }
  have hkx:k<ts.length:=by rw [HN.o];exact hlt
  obtain ⟨e0,e1,e2⟩:=hc0 k ts[k] (kX hkx);clear hc0;have hw1:=hw.alloc hw.size (.cells #[iV ts[k].1,iV ts[k].2.1,iV ts[k].2.2] 163);have HB:=uH (tgtsE_bad hkx);have HX:=uH (zqe hkx);generalize ts[k]=tk at *;cases hv:tOK k tk
  {
  have HF:=uH (fun W=>znu tk k W);rw [hv] at HF;unfold tv at HF;have HV:=uH (HB.o hv);clear hv;go_wp2_with fail;refine(zae HF _).mono ?_;rintro e w1 ⟨rfl,hb1⟩;replace hw1:=bT hw1 hb1;go_wp2_with fail;go_ret;exact⟨zap (by rw [HE.o,<-ht.o,HV.o]),hw1⟩ }
  {
  have HF:=uH (fun W=>znu tk k W);rw [hv] at HF;unfold tv at HF;have HV:=uH (HX.o hv);clear hv;go_wp2_with fail;refine(zae HF _).mono ?_;rintro e w1 ⟨rfl,hb1⟩;replace hw1:=bT hw1 hb1;go_wp2_with fail
  go_roundw
  case rel=>exact⟨k+1,by omega,by go_num,hw1,by show _=_;rw [<-ht.o,HV.o]⟩
  case measure=>simp [intOf];omega } }
  {
  go_wp2_with fail;go_ret;have hx:=ht.o;rw [Kj (by rw [HN.o];omega)] at hx;exact⟨zap (by rw [HE.o,<-hx];rfl),hw⟩ } } } }
theorem znv (xs:LI):okL xs=xs.all wordB:=rfl
theorem imgE_1 {w:LI} (h:inR w.length 1 40=false):imgE w=2:=by simp [imgE,h]
theorem imgE_2 {w:LI} (h:inR w.length 1 40=true) (h2:okL w=false):imgE w=3:=by rw [znv] at h2;simp [imgE,h,h2]
theorem imgE_3 {w:LI} (h:inR w.length 1 40=true) (h2:okL w=true):imgE w=0:=by rw [znv] at h2;simp only [imgE,h,h2];rfl
theorem zd9 (a:oA) (n c:Nat) (xs:LI) (w:World) (h:zag w a xs) (hn:xs.length=n) (hm:n<=maxLen):
 Cq 167 #[.slice a n c] w fun e w' =>e=.returned (iV (imgE xs))/\w' =w:=by
 have HN:=uH hn;have HA:=uH (zc8 a n c xs w h hn hm);clear hn;cases h1:inR (n:Int) 1 40
 {
 have HE:=uH (imgE_1 (w:=xs) (by rw [HN.o];exact h1));go_enter Tryz.func167,Tryz.ntmps167
 go_wp2_with (go_at_call 229;refine(za2 _ _ _ _).mono ?_;rintro e w' ⟨rfl,rfl⟩)
 go_ret;exact⟨zap HE.o.symm,rfl⟩ }
 {
 cases h2:okL xs
 {
 have HE:=uH (imgE_2 (by rw [HN.o];exact h1) h2);rw [h2] at HA;go_enter Tryz.func167,Tryz.ntmps167
 go_wp2_with (first| (go_at_call 229;refine(za2 _ _ _ _).mono ?_;rintro e w' ⟨rfl,rfl⟩)| (go_at_call 217;refine(zae HA).mono ?_;rintro e w' ⟨rfl,rfl⟩))
 go_ret;exact⟨zap HE.o.symm,rfl⟩ }
 {
 have HE:=uH (imgE_3 (by rw [HN.o];exact h1) h2);rw [h2] at HA;go_enter Tryz.func167,Tryz.ntmps167
 go_wp2_with (first| (go_at_call 229;refine(za2 _ _ _ _).mono ?_;rintro e w' ⟨rfl,rfl⟩)| (go_at_call 217;refine(zae HA).mono ?_;rintro e w' ⟨rfl,rfl⟩))
 go_ret;exact⟨zap HE.o.symm,rfl⟩ } }
theorem zo3 (hk:k<ss.length) (h:2000<ss[k].size):zcc (ss.take k) (ss.drop k)=2:=by
 rw [kq hk];simp only [zcc];rw [KK h]
theorem zrk (hk:k<ss.length) (h: ¬2000<ss[k].size) (h2:hasB (ss.take k) ss[k]=true):zcc (ss.take k) (ss.drop k)=6:=by
 rw [kq hk];simp only [zcc];rw [KJ h,KJ (by simpa [hasB] using h2)]
theorem zpu (hk:k<ss.length) (h: ¬2000<ss[k].size) (h2:hasB (ss.take k) ss[k]=false):zcc (ss.take k) (ss.drop k)=zcc (ss.take (k+1)) (ss.drop (k+1)):=by
 rw [kq hk,kl hk];simp only [zcc];rw [KJ h,KK (by simpa [hasB] using h2)]
def bookv (a:oA) (n c:Nat):Value:=.agg #[.slice a n c]
theorem zdw (a:oA) (n c:Nat) (ss:LB) (w:World) (h:za1 w a ss) (hn:ss.length=n) (hc:n<=c) (hz: ∀s∈ss,s.size<=maxLen):
 Cq 38 #[bookv a n c] w fun e w' =>e=.returned (iV (bookE ss))/\bZ w w' :=by
 have HN:=uH hn;unfold maxLen at hz;unfold bookv;have hw0:bZ w (w.alloc (.cells #[.slice a n c] 24)):=bA1
 by_cases h1:60<n
 {
 have HE:=uH (show bookE ss=2 by unfold bookE;rw [KK (by omega)]);clear hn;go_enter Tryz.func38,Tryz.ntmps38;go_wp2_with fail;go_ret;exact⟨zap HE.o.symm,hw0⟩ }
 {
 have HE:=uH (show bookE ss=zcc [] ss by unfold bookE;rw [KJ (by omega)]);clear hn;go_enter Tryz.func38,Tryz.ntmps38;go_wp2_with fail
 go_loopw [12] (fun i wr=>∃k:Nat,k<=n/\i=iV k/\wr=w.alloc (.cells #[.slice a n c] 24)/\Hd (zcc (ss.take k) (ss.drop k)=zcc [] ss)) (fun i _=>n - (intOf i).toNat)
 case atStart=>exact⟨0,KG _,rfl,rfl,by show _=_;simp⟩
 case round=>
  obtain ⟨k,hk,rfl,rfl,ht⟩:=hrel
  by_cases hlt:k<n
  {
  have i1:=h.bl hw0;have i2:=i1.take k;have hkx:k<ss.length:=by rw [HN.o];exact hlt
  rcases i1 with rfl| ⟨b0,o0,rfl,hc0⟩
  {
  have:=HN.o
  simp at this
  omega }
  have e0:=h;have e0:=hc0 k hkx;rw [show ss.getD k ByteArray.empty=ss[k] by simp [hkx]] at e0;have hzk:=hz ss[k] (KH hkx);clear hc0
  by_cases h2:2000<ss[k].size
  {
  have HV:=uH (zo3 hkx h2);generalize ss[k]=sk at *;go_wp2_with fail;go_ret;exact⟨zap (by rw [HE.o,<-ht.o,HV.o]),hw0⟩ }
  {
  have HC:=uH (zmt (some ⟨b0,o0,none⟩) k c (ss.take k) ss[k] _ i2 (by simp;omega) (by unfold maxLen;omega));cases h3:hasB (ss.take k) ss[k]
  {
  have HV:=uH (zpu hkx h2 h3);rw [h3] at HC;generalize ss[k]=sk at *
  go_wp2_with (go_at_call 133;refine(zae HC).mono ?_;rintro e w' ⟨rfl,rfl⟩)
  go_roundw
  case rel=>exact⟨k+1,by omega,by go_num,trivial,by show _=_;rw [<-ht.o,HV.o]⟩
  case measure=>simp [intOf];omega }
  {
  have HV:=uH (zrk hkx h2 h3);rw [h3] at HC;generalize ss[k]=sk at *
  go_wp2_with (go_at_call 133;refine(zae HC).mono ?_;rintro e w' ⟨rfl,rfl⟩)
  go_ret;exact⟨zap (by rw [HE.o,<-ht.o,HV.o]),hw0⟩ } } }
  {
  go_wp2_with fail;go_ret;have hx:=ht.o;rw [Kj (by rw [HN.o];omega)] at hx;exact⟨zap (by rw [HE.o,<-hx];rfl),hw0⟩ } }
def bs (l:List UInt8):ByteArray:=⟨l.toArray⟩
theorem ztl (l:List UInt8): (bs l).data.toList=l:=by simp [bs]
theorem zdk (l:List UInt8): (bs l).size=l.length:=rfl
theorem bs_inj {a b:List UInt8} (h:bs a=bs b):a=b:=by rw [<-ztl a,h,ztl]
theorem var_below {n:String} {cs:Array Value} (h:w.var? Tryz.prog n=some cs) (hb:bZ w w'):w'.var? Tryz.prog n=some cs:=by
 unfold World.var? at h|-;cases hg:Tryz.prog.globalNamed n with
 |none=>rw [hg] at h;cases h
 |some g=>
  rw [hg] at h;simp only [Option.bind_some] at h|-;have hlt:g<w.heap.size:=by
   cases hx:w.heap[g]? with
   |none=>rw [hx] at h;cases h
   |some o=>exact(Kh.1 hx).1
  rw [hb.block g hlt];exact h
def Tab (w:World):Prop:=Lib.TabIs Tryz.prog w "internal/strconv.uint64pow10" .u64 Lib.pow10Tab
theorem Tab.bl (h:Tab w) (hb:bZ w w'):Tab w' :=var_below h hb
theorem Tab.alloc (h:Tab w) (o:Obj):Tab (w.alloc o):=h.bl (bA1)
theorem zqn (w:World) (os:Array Obj):bZ w (Sort.grow w os):=
 ⟨rfl,rfl,rfl,by simp,fun k hk=>Sort.heap_grow_old w os hk⟩
theorem itoa_any (n:Int) (hn:I64 n) (w:World) (hT:Tab w):
 Cq 213 #[iV n] w fun e w' =>e=.returned (.string (bs (Lib.itoa n)))/\bZ w w' :=by
 refine(Tryz.strconv_Itoa n hn.1 hn.2 w hT).mono ?_;rintro e w' ⟨rfl,k,os,rfl⟩;exact⟨rfl,(kA (kS _ _) k).trans (zqn (w.drewN k) os:Below (w.drewN k).heap.size _ _)⟩
theorem zot (a:oA) (n c:Nat) (ss:LB) (sep:List UInt8) (w:World) (h:za1 w a ss) (hn:ss.length=n) (hc:n<=c) (hm:n<=140737488355328)
 (hlen: (Lib.join (ss.map (·.data.toList)) sep).length<=140737488355328):
 Cq 171 #[.slice a n c,.string (bs sep)] w fun e w' =>e=.returned (.string (bs (Lib.join (ss.map (·.data.toList)) sep)))/\bZ w w' :=by
 subst hn
 rcases h with rfl| ⟨b,off,rfl,hcell⟩
 {
 refine(Tryz.strings_Join_none a c (bs sep) w).mono ?_;rintro e w' ⟨rfl,rfl⟩;exact⟨rfl,kS _ _⟩ }
 {
 by_cases h0:ss= []
 {
 subst h0;refine(Tryz.strings_Join_none _ c (bs sep) w).mono ?_;rintro e w' ⟨rfl,rfl⟩;exact⟨rfl,kS _ _⟩ }
 have hpos:0<ss.length:=by cases ss with
  |nil=>exact absurd rfl h0
  |cons x r=>simp
 have:=Tryz.strings_Join b off c ss (bs sep) w (fun j x hx=>by
  obtain ⟨hj,hx⟩:=kY.1 hx;have:=hcell j hj;rw [show ss.getD j ByteArray.empty=x by simp [hj,hx]] at this;exact this) (zah (hcell 0 hpos)) hm hc (by rw [ztl];exact hlen)
 rw [ztl] at this;exact this }
def tl (xs:LI) (n k:Nat):LB:=(xs.take k).map (fun x=>bs (Lib.itoa x))++List.replicate (n - k) ByteArray.empty
theorem tl_len (xs:LI) (n k:Nat) (hn:xs.length=n) (hk:k<=n): (tl xs n k).length=n:=by simp [tl];omega
theorem tl_set (hn:xs.length=n) (hk:k<xs.length): (tl xs n k).set k (bs (Lib.itoa xs[k]))=tl xs n (k+1):=by
 unfold tl;have hl: ((xs.take k).map (fun x=>bs (Lib.itoa x))).length=k:=by simp;omega
 rw [List.set_append_right _ _ (by omega),hl,Nat.sub_self,kl hk,List.map_append,show n - k= (n - (k+1))+1 by omega,List.replicate_succ]
 simp
theorem tl_all (hn:xs.length=n): (tl xs n n).map (·.data.toList)=xs.map Lib.itoa:=by
 unfold tl;rw [kh (by omega)]
 simp [bs]
theorem zeh (hx: ∀x∈xs,I64 x) (h:xs.length<=64): (wr xs).length<=2000:=by
 have:=wr_len 21 xs (fun x hxm=>Lib.itoa_length_le x (hx x hxm).1 (hx x hxm).2);have:xs.length * 22<=64 * 22:=Kk _ h;omega
theorem zdp (a:oA) (n c:Nat) (xs:LI) (w:World) (h:zag w a xs) (hn:xs.length=n) (hx: ∀x∈xs,I64 x) (hs:n<=64) (hT:Tab w):
 Cq 168 #[.slice a n c] w fun e w' =>e=.returned (.string (bs (wr xs)))/\bZ w w' :=by
 have HN:=uH hn;have hmk:=make_strs n w (by omega);have HJ:=uH (fun W (hW:za1 W (some ⟨w.heap.size,0,none⟩) (tl xs n n))=>zot (some ⟨w.heap.size,0,none⟩) n n (tl xs n n) [32] W hW (tl_len xs n n hn (kQ _)) (kQ _) (by omega) (by
  rw [tl_all hn];have:=zeh hx (by omega);unfold wr at this;omega))
 rw [tl_all hn] at HJ;have h0:Hd (za4 (w.alloc (.cells (svals (List.replicate n ByteArray.empty)).toArray 9)) w.heap.size (tl xs n 0)):=by
  show za4 _ _ _
  unfold za4 tl
  simpa using kP w (.cells (svals (List.replicate n ByteArray.empty)).toArray 9)
 have hw0:bZ w (w.alloc (.cells (svals (List.replicate n ByteArray.empty)).toArray 9)):=bA1;clear hn;go_enter Tryz.func168,Tryz.ntmps168;go_wp2_with fail
 go_loopw [11] (fun i wr=>∃k:Nat,k<=n/\i=iV k/\bZ w wr/\Hd (za4 wr w.heap.size (tl xs n k))) (fun i _=>n - (intOf i).toNat)
 case atStart=>exact⟨0,KG _,rfl,hw0,h0⟩
 case round=>
  clear h0 hw0 hmk;obtain ⟨k,hk,rfl,hw,ho⟩:=hrel
  by_cases hlt:k<n
  {
  have h1:=h.bl hw
  rcases h1 with rfl| ⟨b0,o0,rfl,hc0⟩
  {
  have:=HN.o
  simp at this
  omega }
  have hkx:k<xs.length:=by rw [HN.o];exact hlt
  have e0:=hc0 k hkx;rw [show xs.getD k 0=xs[k] by simp [hkx]] at e0;have hi:=hx xs[k] (KH hkx);have ltw:=ho.o.lt;have HS:=uH (tl_set HN.o hkx);have hTr:=hT.bl hw;have HL:=uH (tl_len xs n k HN.o hk);clear hc0;go_wp2_with fail;refine(itoa_any _ hi _ hTr).mono ?_;rintro e w1 ⟨rfl,hb1⟩;have ho1:=uH (ho.o.bl hb1 ltw);have hf1:=ho1.o.free k;have hc1:=ho1.o.cell k (by rw [HL.o];exact hlt);have hw1:=bT hw hb1;go_wp2_with fail
  go_roundw
  case rel=>
   refine⟨k+1,by omega,by go_num,hw1.setCell (kQ _) _, ?_⟩
   show za4 _ _ _
   rw [<-HS.o];exact ho1.o.set k _
  case measure=>simp [intOf];omega }
  {
  have hkn:k=n:=by omega
  subst hkn;go_wp2_with fail;refine(zae HJ _ ho.o.isStrs).mono ?_;rintro e w1 ⟨rfl,hb1⟩;go_wp2_with fail;go_ret;exact⟨rfl,(bT hw hb1)⟩ }
def imgTx (xs:LI):List UInt8:=if imgE xs=0 then imgT xs else []
def zd4 (v:Int) (ks:LI) (t:Int):List UInt8:=if rootE v ks t=0 then rootT v ks t else []
def relTx (v u:Int) (ts:List T3):List UInt8:=if relE v u ts=0 then relT v u ts else []
theorem zf1 (a b:List UInt8):bs a++bs b=bs (a++b):=by
 apply ByteArray.ext
 simp [bs]
theorem app_two (a b:List UInt8) (h:s=bs a):s++bs b=bs (a++b):=by rw [h,zf1]
theorem zn9 {t:ByteArray} (a b c d:List UInt8) (h:s=bs a) (h2:t=bs c):s++bs b++t++bs d=bs (a++b++c++d):=by rw [h,h2,zf1,zf1,zf1]
theorem zn4 {t:ByteArray} {q:Int} (h:s=t):Ending.returned (.tuple #[.string s,iV q])=.returned (.tuple #[.string t,iV q]):=by rw [h]
theorem ztm (h:imgE xs=0): ∀x∈xs,I64 x:=fun x hx=>by
 have:=(zlv h).2 x hx;exact⟨by omega,by omega⟩
theorem zg9 (a:oA) (n c:Nat) (xs:LI) (w:World) (h:zag w a xs) (hn:xs.length=n) (hm:n<=maxLen) (hT:Tab w):
 Cq 103 #[.slice a n c] w fun e w' =>e=.returned (.tuple #[.string (bs (imgTx xs)),iV (imgE xs)])/\bZ w w' :=by
 have HC:=uH (zd9 a n c xs w h hn hm)
 by_cases h0:imgE xs=0
 {
 have HX:=uH (show imgTx xs=imgT xs by unfold imgTx;rw [KK h0]);have HW:=uH (zdp a n c xs w h hn (ztm h0) (by have:=(zlv h0).1;omega) hT);have hl:=uH (zeh (ztm h0) (by have:=(zlv h0).1;omega));rw [h0] at HC;have hadd: ¬9223372036854775807<6+(bs (wr xs)).size:=by rw [zdk];have:=hl.o;omega
 clear hn;go_enter Tryz.func103,Tryz.ntmps103
 go_wp2_with (first| (go_at_call 167;refine(zae HC).mono ?_;rintro e w' ⟨rfl,rfl⟩)| (go_at_call 168;refine(zae HW).mono ?_;rintro e w1 ⟨rfl,hb1⟩))
 go_ret2;refine⟨?_,hb1⟩;rw [HX.o,h0];exact zn4 (app_two imgW (wr xs) rfl) }
 {
 have hb: (imgE xs !=0)=true:=by simpa using h0
 have HX:=uH (show imgTx xs= [] by unfold imgTx;rw [KJ h0]);clear hn h0;generalize imgE xs=q at *;go_enter Tryz.func103,Tryz.ntmps103
 go_wp2_with (go_at_call 167;refine(zae HC).mono ?_;rintro e w' ⟨rfl,rfl⟩)
 go_ret2;rw [HX.o];exact⟨rfl,kS _ _⟩ }
theorem root_I64 {t:Int} (h:rootE v ks t=0): (∀x∈ks,I64 x)/\∀x∈ [v,t],I64 x:=by
 obtain ⟨h1,h2,h3,h4,h5⟩:=zft h;refine⟨fun x hx=> ?_,fun x hx=> ?_⟩
 {
 have:=keys_in h5 x hx;exact⟨by omega,by omega⟩ }
 {
 simp at hx
 rcases hx with rfl|rfl
 { exact⟨by omega,by omega⟩ }
 {
 exact⟨by omega,by omega⟩ } }
theorem zf6 (h:zag w a xs):zag w.drew a xs:=h
theorem zaf {w1 W:World} (h:bZ w1 W) (o:Obj):bZ w1 (W.alloc o):=h.alloc h.size o
theorem keep3 {w1 W:World} {b:Nat} {v0 v1 v2:Value} {t:TypeId} (hb:bZ w1 W) (h:w1.heap[b]?=some (.cells #[v0,v1,v2] t (0,0))):
 ce W b 0=some v0/\ce W b 1=some v1/\ce W b 2=some v2/\bZ w1 W:=by
 have h' :=zab h hb;exact⟨zaa h' 0 _ rfl,zaa h' 1 _ rfl,zaa h' 2 _ rfl,hb⟩
theorem znz (v:Int) (a:oA) (n c:Nat) (t:Int) (xs:LI) (w:World) (h:zag w a xs) (hn:xs.length=n) (hm:n<=maxLen) (hT:Tab w):
 Cq 308 #[rv v a n c t] w fun e w' =>e=.returned (.tuple #[.string (bs (zd4 v xs t)),iV (rootE v xs t)])/\bZ w w' :=by
 have hw0:bZ w (w.alloc (.cells #[iV v,.slice a n c,iV t] 30)):=bA1;have b0:=uH (kP w (.cells #[iV v,.slice a n c,iV t] 30));have i0:=h.bl hw0;have t0:=hT.bl hw0;have HC:=uH (fun W (hW:zag W a xs)=>zeu v a n c t xs W hW hn hm);unfold rv at HC|-
 by_cases h0:rootE v xs t=0
 {
 have HX:=uH (show zd4 v xs t=rootT v xs t by unfold zd4;rw [KK h0]);obtain ⟨k1,k2⟩:=root_I64 h0;have hl:n<=6:=by have:=(zft h0).2.1;omega
 have HW2:=uH (fun W (hW:zag W a xs) (hTW:Tab W)=>zdp a n c xs W hW hn k1 (by omega) hTW);have HW1:=uH (fun W B (hW:zag W (some ⟨B,0,none⟩) [v,t]) (hTW:Tab W)=>zdp (some ⟨B,0,none⟩) 2 2 [v,t] W hW rfl k2 (by omega) hTW);have l1:=uH (zeh k2 (by simp));have l2:=uH (zeh k1 (by omega));rw [h0] at HC;rw [h0];have hadd1: ¬9223372036854775807<5+(bs (wr [v,t])).size:=by rw [zdk];have:=l1.o;omega
 have hadd2: ¬9223372036854775807<5+(bs (wr [v,t])).size+4:=by rw [zdk];have:=l1.o;omega
 have hadd3: ¬9223372036854775807<5+(bs (wr [v,t])).size+4+(bs (wr xs)).size:=by rw [zdk,zdk];have:=l1.o;have:=l2.o;omega
 clear hn k1 k2;go_enter Tryz.func308,Tryz.ntmps308;go_wp2_with fail;generalize w.alloc (.cells #[iV v,.slice a n c,iV t] 30)=W at *;refine(zae HC _ i0).mono ?_;rintro e w1 ⟨rfl,hb1⟩;replace b0:=uH (zab b0.o hb1);replace i0:=i0.bl hb1;replace t0:=t0.bl hb1;replace hw0:=bT hw0 hb1;clear hb1;replace HW2:=uH (fun W (hW:bZ w1 W)=>(HW2.o W (i0.bl hW) (t0.bl hW)).mono fun _ _ h=>(⟨h.1,h.2,(bT hW h.2)⟩:_/\bZ W _/\bZ w1 _));replace HW1:=uH (fun W B (hW:bZ w1 W) (hi:zag W (some ⟨B,0,none⟩) [v,t])=>(HW1.o W B hi (t0.bl hW)).mono fun _ _ h=>(⟨h.1,h.2,(bT hW h.2)⟩:_/\bZ W _/\bZ w1 _));go_upto_region 4 with fail
 have hb5:True:=trivial
 go_region_held3 (fun w' =>ce w' w.heap.size 0=some (iV v)/\ce w' w.heap.size 1=some (.slice a n c)/\ce w' w.heap.size 2=some (iV t)/\bZ w1 w')
  (first| (refine keep3 ?_ b0.o;(repeat(first|assumption|exact kS _ _|refine kE ?_|refine zaf ?_ _));done))
  ((first
   | (go_at_call_of 168 c;refine(zae HW2 _ ?_).mono ?_;(focus((repeat(first|assumption|exact kS _ _|refine kE ?_|refine zaf ?_ _));done));rintro e w5 ⟨rfl,hb5,hk5⟩)
   | (go_at_call 168;refine(zae HW1 _ _ ?_ ?_).mono ?_;(focus((repeat(first|assumption|exact kS _ _|refine kE ?_|refine zaf ?_ _));done));(focus((repeat(first|exact zd2 _ _ [v,t] _ _ rfl rfl|refine zf6 ?_|refine zag.bl ?_ hb5));done));rintro e w6 ⟨rfl,hb6,hk6⟩)))
 go_wp2_with fail;go_ret2;refine⟨?_,hw0.trans (Below.mono (by first|assumption|exact And.right (And.right (And.right (by assumption)))) hw0.size)⟩;rw [HX.o];exact zn4 (zn9 rootW (wr [v,t]) ofW (wr xs) rfl rfl) }
 {
 have hb: (rootE v xs t !=0)=true:=by simpa using h0
 have HX:=uH (show zd4 v xs t= [] by unfold zd4;rw [KJ h0]);clear hn h0;generalize rootE v xs t=q at *;go_enter Tryz.func308,Tryz.ntmps308;go_wp2_with fail;generalize w.alloc (.cells #[iV v,.slice a n c,iV t] 30)=W at *;refine(zae HC _ i0).mono ?_;rintro e w1 ⟨rfl,hb1⟩;replace hw0:=bT hw0 hb1;go_wp2_with fail;go_ret2;rw [HX.o];exact⟨rfl,hw0⟩ }
def nameE (ss:LB) (s:ByteArray):Int:=if bookE ss=0 then(nameN ss s:Int) else 0
def inE (ss:LB) (xs:LI):Int:=if imgE xs=0 then bookE ss else imgE xs
def inN (ss:LB) (xs:LI):Int:=if imgE xs=0 then nameE ss (bs (imgT xs)) else 0
theorem zdi {a b c d:Int} (h:a=c) (h2:b=d):Ending.returned (.tuple #[iV a,iV b])=.returned (.tuple #[iV c,iV d]):=by rw [h,h2]
theorem zjc (a:oA) (n c:Nat) (ss:LB) (s:ByteArray) (w:World) (h:za1 w a ss) (hn:ss.length=n) (hc:n<=c) (hm:n<=maxLen) (hz: ∀s∈ss,s.size<=maxLen):
 Cq 205 #[bookv a n c,.string s] w fun e w' =>e=.returned (.tuple #[iV (nameE ss s),iV (bookE ss)])/\bZ w w' :=by
 have hw0:bZ w (w.alloc (.cells #[.slice a n c] 24)):=bA1;have b0:=uH (kP w (.cells #[.slice a n c] 24));have i0:=h.bl hw0;have HC:=uH (fun W (hW:za1 W a ss)=>zdw a n c ss W hW hn hc hz);have HI:=uH (fun W (hW:za1 W a ss)=>zgv a n c ss s W hW hn hm);have hle:=zoc ss s;rw [hn] at hle;unfold maxLen at hm;have hwrap:IntKind.i64.wrap ((nameN ss s:Int)- 1+1)= (nameN ss s:Int):=by rw [kD];omega
 obtain ⟨q,hq⟩: ∃q:Int,q= (nameN ss s:Int)- 1:=⟨_,rfl⟩;rw [<-hq] at hwrap HI;unfold bookv at HC|-;clear hn
 by_cases h0:bookE ss=0
 {
 have HX:=uH (show nameE ss s= (nameN ss s:Int) by unfold nameE;rw [KK h0]);have H0:=uH h0;rw [h0] at HC;rw [h0];clear h0 hq;generalize (nameN ss s:Int)=r at *;go_enter Tryz.func205,Tryz.ntmps205;go_wp2_with fail;generalize w.alloc (.cells #[.slice a n c] 24)=W at *;refine(zae HC _ i0).mono ?_;rintro e w1 ⟨rfl,hb1⟩;replace i0:=i0.bl hb1;replace hw0:=bT hw0 hb1;have x0:=zaa (zab b0.o hb1) 0 _ rfl;clear hb1;go_wp2_with fail;refine(zae HI _ i0).mono ?_;rintro e w2 ⟨rfl,rfl⟩;go_wp2_with fail;go_ret2;exact⟨zdi HX.o.symm rfl,hw0⟩ }
 {
 have hb: (bookE ss !=0)=true:=by simpa using h0
 have HX:=uH (show nameE ss s=0 by unfold nameE;rw [KJ h0]);clear h0 hq;generalize bookE ss=r at *;go_enter Tryz.func205,Tryz.ntmps205;go_wp2_with fail;generalize w.alloc (.cells #[.slice a n c] 24)=W at *;refine(zae HC _ i0).mono ?_;rintro e w1 ⟨rfl,hb1⟩;replace hw0:=bT hw0 hb1;go_wp2_with fail;go_ret2;exact⟨zdi HX.o.symm rfl,hw0⟩ }
theorem zew (a:oA) (n c:Nat) (ss:LB) (a2:oA) (n2 c2:Nat) (xs:LI) (w:World) (h:za1 w a ss) (hn:ss.length=n) (hc:n<=c) (hm:n<=maxLen) (hz: ∀s∈ss,s.size<=maxLen)
 (h2:zag w a2 xs) (hn2:xs.length=n2) (hm2:n2<=maxLen) (hT:Tab w):
 Cq 139 #[bookv a n c,.slice a2 n2 c2] w fun e w' =>e=.returned (.tuple #[iV (inN ss xs),iV (inE ss xs)])/\bZ w w' :=by
 have hw0:bZ w (w.alloc (.cells #[.slice a n c] 24)):=bA1;have b0:=uH (kP w (.cells #[.slice a n c] 24));have i0:=h.bl hw0;have j0:=h2.bl hw0;have t0:=hT.bl hw0;have HT:=uH (fun W (hW:zag W a2 xs) (hTW:Tab W)=>zg9 a2 n2 c2 xs W hW hn2 hm2 hTW);have HNm:=uH (fun W s (hW:za1 W a ss)=>zjc a n c ss s W hW hn hc hm hz);unfold bookv at HNm|-;clear hn hn2
 by_cases h0:imgE xs=0
 {
 have HX:=uH (show inN ss xs=nameE ss (bs (imgT xs)) by unfold inN;rw [KK h0]);have HY:=uH (show inE ss xs=bookE ss by unfold inE;rw [KK h0]);have HZ:=uH (show imgTx xs=imgT xs by unfold imgTx;rw [KK h0]);rw [HZ.o,h0] at HT;clear h0;generalize bs (imgT xs)=s at *;replace HNm:=uH (fun W=>zae HNm W s);generalize nameE ss s=r1 at *;generalize bookE ss=r2 at *;go_enter Tryz.func139,Tryz.ntmps139;go_wp2_with fail;generalize w.alloc (.cells #[.slice a n c] 24)=W at *;refine(zae HT _ j0 t0).mono ?_;rintro e w1 ⟨rfl,hb1⟩;replace i0:=i0.bl hb1;replace hw0:=bT hw0 hb1;have x0:=zaa (zab b0.o hb1) 0 _ rfl;clear hb1;go_wp2_with fail;refine(zae HNm _ i0).mono ?_;rintro e w2 ⟨rfl,hb2⟩;go_wp2_with fail;go_ret2;exact⟨zdi HX.o.symm HY.o.symm,(bT hw0 hb2)⟩ }
 {
 have hb: (imgE xs !=0)=true:=by simpa using h0
 have HX:=uH (show inN ss xs=0 by unfold inN;rw [KJ h0]);have HY:=uH (show inE ss xs=imgE xs by unfold inE;rw [KJ h0]);clear h0;generalize imgE xs=r at *;go_enter Tryz.func139,Tryz.ntmps139;go_wp2_with fail;generalize w.alloc (.cells #[.slice a n c] 24)=W at *;refine(zae HT _ j0 t0).mono ?_;rintro e w1 ⟨rfl,hb1⟩;replace hw0:=bT hw0 hb1;go_wp2_with fail;go_ret2;exact⟨zdi HX.o.symm HY.o.symm,hw0⟩ }
abbrev S2:=Int×Int
structure Rt where
 v:Int
 ks:LI
 t:Int
structure Tr where
 r:Rt
 ver:Int
structure Of where
 roots:List Rt
 rsigs:LL
 v:Int
 u:Int
 ts:List T3
 sigs:LI
 imgs:LL
def Rt.e (r:Rt):Int:=rootE r.v r.ks r.t
def Rt.tx (r:Rt):List UInt8:=rootT r.v r.ks r.t
def sOK (s:S2):Bool:=inR s.1 1 50&&inR s.2 1 60
def sigE (l:List S2):Int:=if 360<l.length then 2 else if l.all sOK then 0 else 3
def trE (t:Tr):Int:=if inR t.ver 0 1000 then t.r.e else 3
def has {α:Type} [DecidableEq α] (xs:List α) (x:α):Bool:=decide (x∈xs)
def hit (l:List S2) (sigs:LI) (name k:Int):Bool:=has sigs k&&has l (k,name)
def cntN (l:List S2) (ks sigs:LI) (name:Int):Nat:=ks.countP (hit l sigs name)
def cntE (l:List S2) (r:Rt) (sigs:LI):Int:=
 if sigE l=0 then(if r.e=0 then(if 50<sigs.length then 2 else 0) else r.e) else sigE l
def cntV (l:List S2) (r:Rt) (sigs:LI) (name:Int):Int:=if cntE l r sigs=0 then(cntN l r.ks sigs name:Int) else 0
def csE (l:List S2) (r:Rt) (sigs:LI) (name:Int):Int:=
 if cntE l r sigs=0 then(if(cntN l r.ks sigs name:Int)<r.t then 9 else 0) else cntE l r sigs
def turnE (ss:LB) (l:List S2) (t:Tr) (x:Rt) (sigs:LI):Int:=
 if trE t=0 then
  (if x.e=0 then
   (if bookE ss=0 then
    (if x.v=t.r.v+1 then
     (if csE l t.r sigs (nameN ss (bs x.tx))=0 then csE l x sigs (nameN ss (bs x.tx)) else csE l t.r sigs (nameN ss (bs x.tx)))
    else 10)
   else bookE ss)
  else x.e)
 else trE t
def zdf (ss:LB) (l:List S2) (t:Tr):List Rt->LL->Int
 |r::rs,s::sgs=>if turnE ss l t r s=0 then zdf ss l ⟨r,t.ver⟩ rs sgs else turnE ss l t r s
 |_,_=>0
def lastR (r:Rt):List Rt->Rt
 | []=>r
 |x::rs=>lastR x rs
def allE (ss:LB) (l:List S2) (t:Tr) (rs:List Rt) (sgs:LL):Int:=
 if 6<rs.length then 2 else if sgs.length=rs.length then zdf ss l t rs sgs else 2
def crE (ss:LB) (l:List S2) (by_:Rt) (v u:Int) (ts:List T3) (sigs:LI):Int:=
 if relE v u ts=0 then(if bookE ss=0 then csE l by_ sigs (nameN ss (bs (relT v u ts))) else bookE ss) else relE v u ts
def zcx (ss:LB) (t:T3) (w:LI):Bool:=decide (inE ss w=0)&&(decide (inN ss w=t.2.1)&&decide ((w.length:Int)=t.2.2))
def zb2 (ss:LB):List T3->LL->Bool
 |t::ts,w::ws=>zcx ss t w&&zb2 ss ts ws
 |_,_=>true
def restE (ss:LB) (ver:Int) (o:Of) (now units:Int):Int:=
 if o.v<=ver then 10 else if o.u<now then 11
 else if(o.ts.length:Int)≠units then 4 else if(o.imgs.length:Int)≠units then 4
 else if zb2 ss o.ts o.imgs then 0 else 5
def takeE (ss:LB) (l:List S2) (t:Tr) (o:Of) (now units:Int):Int:=
 if trE t=0 then
  (if allE ss l t o.roots o.rsigs=0 then
   (if crE ss l (lastR t.r o.roots) o.v o.u o.ts o.sigs=0 then restE ss t.ver o now units
   else crE ss l (lastR t.r o.roots) o.v o.u o.ts o.sigs)
  else allE ss l t o.roots o.rsigs)
 else trE t
theorem sigE_many {l:List S2} (h:360<l.length):sigE l=2:=by unfold sigE;rw [KK h]
theorem sigE_bad {l:List S2} (h:l.length<=360) (hk:k<l.length) (h2:sOK l[k]=false):sigE l=3:=by
 unfold sigE;rw [KJ (by omega),KJ];intro ha;have:=kH.1 ha l[k] (KH hk);rw [h2] at this;cases this
theorem sigE_ok {l:List S2} (h:l.length<=360) (h2:l.all sOK=true):sigE l=0:=by
 unfold sigE;rw [KJ (by omega),KK h2]
theorem sOK_step {l:List S2} (hk:k<l.length) (h: (l.take k).all sOK=true) (hv:sOK l[k]=true): (l.take (k+1)).all sOK=true:=by
 rw [kl hk,List.all_append,h]
 simp [hv]
theorem cntN_step {l:List S2} {sigs:LI} {name:Int} (hk:k<ks.length):
 cntN l (ks.take (k+1)) sigs name=cntN l (ks.take k) sigs name+if hit l sigs name ks[k] then 1 else 0:=by
 unfold cntN;rw [kl hk,List.countP_append]
 simp [List.countP_cons]
def zcr (w:World) (a:oA) (l:List S2):Prop:=
 l= []\/∃b off,a=some ⟨b,off,none⟩/\∀i s,l[i]?=some s->
  w.cell? ⟨b,off+i * 2,none⟩=some (iV s.1)/\w.cell? ⟨b,off+i * 2+1,none⟩=some (iV s.2)
theorem zcr.bl {l:List S2} (h:zcr w a l) (hb:bZ w w'):zcr w' a l:=by
 rcases h with h| ⟨b,off,rfl,hc⟩
 { exact .inl h }
 {
 refine .inr ⟨b,off,rfl,fun i s hi=> ?_⟩;obtain ⟨h1,h2⟩:=hc i s hi;exact⟨by rw [hb.cell (zah h1)];exact h1,by rw [hb.cell (zah h2)];exact h2⟩ }
def ze6 (w:World) (a:oA) (ls:LL):Prop:=
 ls= []\/∃b off,a=some ⟨b,off,none⟩/\∀i r,ls[i]?=some r->
  ∃ai ci,w.cell? ⟨b,off+i,none⟩=some (Value.slice ai r.length ci)/\zag w ai r/\r.length<=ci/\ci<=maxLen
theorem ze6.bl (h:ze6 w a ls) (hb:bZ w w'):ze6 w' a ls:=by
 rcases h with h| ⟨b,off,rfl,hc⟩
 { exact .inl h }
 {
 refine .inr ⟨b,off,rfl,fun i r hi=> ?_⟩;obtain ⟨ai,ci,h1,h2,h3⟩:=hc i r hi;exact⟨ai,ci,by rw [hb.cell (zah h1)];exact h1,h2.bl hb,h3⟩ }
def zih (w:World) (a:oA) (rs:List Rt):Prop:=
 rs= []\/∃b off,a=some ⟨b,off,none⟩/\∀i r,rs[i]?=some r->
  ∃ai ci,w.cell? ⟨b,off+i * 3,none⟩=some (iV r.v)/\w.cell? ⟨b,off+i * 3+1,none⟩=some (Value.slice ai r.ks.length ci)/\w.cell? ⟨b,off+i * 3+2,none⟩=some (iV r.t)/\zag w ai r.ks/\r.ks.length<=ci/\ci<=maxLen
theorem zih.bl {rs:List Rt} (h:zih w a rs) (hb:bZ w w'):zih w' a rs:=by
 rcases h with h| ⟨b,off,rfl,hc⟩
 { exact .inl h }
 {
 refine .inr ⟨b,off,rfl,fun i r hi=> ?_⟩;obtain ⟨ai,ci,h1,h2,h3,h4,h5⟩:=hc i r hi;exact⟨ai,ci,by rw [hb.cell (zah h1)];exact h1,by rw [hb.cell (zah h2)];exact h2,by rw [hb.cell (zah h3)];exact h3,h4.bl hb,h5⟩ }
def trv (v:Int) (a:oA) (n c:Nat) (t ver:Int):Value:=.agg #[iV v,.slice a n c,iV t,iV ver]
def sv (s:S2):Value:=.agg #[iV s.1,iV s.2]
structure BI (w:World) (a:oA) (n:Nat) (xs:LI):Prop where
 at_:zag w a xs
 len:xs.length=n
 max:n<=maxLen
structure BG (w:World) (a:oA) (n:Nat) (l:List S2):Prop where
 at_:zcr w a l
 len:l.length=n
 max:n<=maxLen
structure BB (w:World) (a:oA) (n c:Nat) (ss:LB):Prop where
 at_:za1 w a ss
 len:ss.length=n
 cap:n<=c
 max:n<=maxLen
 short: ∀s∈ss,s.size<=maxLen
structure BT (w:World) (a:oA) (n:Nat) (ts:List T3):Prop where
 at_:zbm w a ts
 len:ts.length=n
 max:n<=maxLen
structure BR (w:World) (a:oA) (n:Nat) (rs:List Rt):Prop where
 at_:zih w a rs
 len:rs.length=n
 max:n<=maxLen
structure BL (w:World) (a:oA) (n:Nat) (ls:LL):Prop where
 at_:ze6 w a ls
 len:ls.length=n
 max:n<=maxLen
theorem BI.bl (h:BI w a n xs) (hb:bZ w w'):BI w' a n xs:=⟨h.at_.bl hb,h.len,h.max⟩
theorem BG.bl {l:List S2} (h:BG w a n l) (hb:bZ w w'):BG w' a n l:=⟨h.at_.bl hb,h.len,h.max⟩
theorem BB.bl {c:Nat} (h:BB w a n c ss) (hb:bZ w w'):BB w' a n c ss:=⟨h.at_.bl hb,h.len,h.cap,h.max,h.short⟩
theorem BT.bl {ts:List T3} (h:BT w a n ts) (hb:bZ w w'):BT w' a n ts:=⟨h.at_.bl hb,h.len,h.max⟩
theorem BR.bl {rs:List Rt} (h:BR w a n rs) (hb:bZ w w'):BR w' a n rs:=⟨h.at_.bl hb,h.len,h.max⟩
theorem BL.bl (h:BL w a n ls) (hb:bZ w w'):BL w' a n ls:=⟨h.at_.bl hb,h.len,h.max⟩
end Go.Proofs.YthmekfcgdfckaaaGreatDoor
