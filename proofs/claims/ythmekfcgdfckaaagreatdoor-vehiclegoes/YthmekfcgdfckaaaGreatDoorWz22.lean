/- Facts. -/
import Derived.Deep.MidRow
import Derived.Test.YthmekfcgdfckaaaGreatDoorWz18
import Derived.Test.YthmekfcgdfckaaaGreatDoorWz21
import Derived.Test.YthmekfcgdfckaaaGreatDoorWz20
import Derived.Test.YthmekfcgdfckaaaGreatDoorWz19
set_option maxRecDepth 1000000
set_option maxHeartbeats 0
namespace Go.Proofs.YthmekfcgdfckaaaGreatDoor
open Go.RowKit
variable {w w' W wr:World} {b F k n B:Nat} {v:Value} {m:VA} {P:Program} {t u:TypeId} {tmps cur:Array Value} {x:Hp} {C K K' :Nat->Prop} {vs:LV} {a:oA} {ls fs' :LL} {os:List Of} {l:List Hp} {ss' :LB} {sg' :List S2}
def bk (w:World) (b:Nat):Option Obj:=w.heap[b]?
theorem bk_of {o:Obj} (h:w.heap[b]?=some o):bk w b=some o:=h
theorem zgj (w:World) (o:Obj):bk (w.alloc o) w.heap.size=some o:=kP w o
theorem zli (w:World) (b:Nat):bk w.drew b=bk w b:=rfl
def rdB (t:TypeId) (p:Value):Sem Value:=Instr.loadAt t p
def alB (t:TypeId):Sem Value:=Instr.alloc t true (.tuple #[])
def bdB (t:TypeId):Sem Value:=Instr.build t #[]
def wrB (t:TypeId) (p x:Value):Sem Unit:=Instr.storeAt t p x
section
variable {P:Program} {w:World} {t u:TypeId} {n b:Nat} {cs cs' :Array Value} {fr:Nat×Nat}
def rdF (P:Program) (w:World) (t:TypeId) (n b:Nat) (o:Option Obj):Result Value:=match o with
 |some (.cells cs _ _)=>if cs.size=n then .ok (.agg cs) w else(rdB t (.pointer (some ⟨b,0,none⟩))).run P w
 |_=>(rdB t (.pointer (some ⟨b,0,none⟩))).run P w
def wrF (P:Program) (w:World) (t:TypeId) (n b:Nat) (cs' :Array Value) (o:Option Obj):Result Unit:=match o with
 |some (.cells cs _ (0,0))=>if cs.size=n/\cs'.size=n/\cs'.all (·.oneCell')=true then .ok () (w.setRow b cs') else(wrB t (.pointer (some ⟨b,0,none⟩)) (.agg cs')).run P w
 |_=>(wrB t (.pointer (some ⟨b,0,none⟩)) (.agg cs')).run P w
theorem zub (h:cs.size=n):rdF P w t n b (some (.cells cs u fr))=.ok (.agg cs) w:=by unfold rdF;dsimp only;rw [KK h]
theorem zxh (h:cs.size=n) (h1:cs'.size=n) (h2:cs'.all (·.oneCell')=true):wrF P w t n b cs' (some (.cells cs u (0,0)))=.ok () (w.setRow b cs'):=by unfold wrF;exact KK ⟨h,h1,h2⟩
theorem zlc {d:TypeDesc} (hu:P.underlying t=some d) (hd: (match d with| .struct _| .array _ _=>true|_=>false)=true) (hi: (P.info? t).map (·.size)=some n):
 (rdB t (.pointer (some ⟨b,0,none⟩))).run P w=rdF P w t n b (bk w b):=by
 unfold bk;cases ho:w.heap[b]? with
 |none=>rfl
 |some o=>
  cases o with
  |cells cs u fr=>
   unfold rdF;dsimp only
   by_cases h:cs.size=n
   {
   rw [KK h];have:=run_loadVar_row (P:=P) w b u t cs fr d ho hu hd (by rw [hi,h]);unfold rdB;simp only [Instr.loadAt,Instr.sureAddr,Sem.run_bind,Sem.run_pure,Result.andThen_ok,this] }
   { rw [KJ h] }
  |_=>rfl
theorem zkv (hi: (P.info? t).map (·.size)=some n): (wrB t (.pointer (some ⟨b,0,none⟩)) (.agg cs')).run P w=wrF P w t n b cs' (bk w b):=by
 unfold bk;cases ho:w.heap[b]? with
 |none=>rfl
 |some o=>
  cases o with
  |cells cs u fr=>
   obtain ⟨f1,f2⟩:=fr;unfold wrF
   split
   {
   rename_i e
   cases e
   by_cases h:cs.size=n/\cs'.size=n/\cs'.all (·.oneCell')=true
   {
   rw [KK h];have:=run_storeVar_row (P:=P) w b u t cs cs' ho (by rw [hi,h.2.1]) (by omega) h.2.2;unfold wrB;simp only [Instr.storeAt,Instr.sureAddr,Sem.run_bind,Sem.run_pure,Result.andThen_ok,this] }
   { rw [KJ h] } }
   { rfl }
  |_=>rfl
end
theorem zcv (w:World) (g:Nat) (cs:Array Value):Chg (fun b=>b=g) w (w.setRow g cs):=⟨rfl,rfl,rfl,by simp,fun k _ hn=>setRow_other w g k cs hn⟩
section
variable (ρ:Operand->Value) (dst:Option Tmp) (x y:Operand) (ty:TypeId) (pos:String) (after:Array Edge) (guard:Option (Nat×Bool))
theorem zhy:execOp ρ { dst,op:=.load 40 x,type:=ty,pos,after,guard }= (do pure (.value (<-rdB 40 (ρ x)))):=rfl
theorem zhp:execOp ρ { dst,op:=.store 40 x y,type:=ty,pos,after,guard }= (do wrB 40 (ρ x) (ρ y);pure .skip):=rfl
theorem zyt:execOp ρ { dst,op:=.load 49 x,type:=ty,pos,after,guard }= (do pure (.value (<-rdB 49 (ρ x)))):=rfl
theorem zyu:execOp ρ { dst,op:=.store 49 x y,type:=ty,pos,after,guard }= (do wrB 49 (ρ x) (ρ y);pure .skip):=rfl
theorem zyr:execOp ρ { dst,op:=.alloc 49,type:=ty,pos,after,guard }= (do pure (.value (<-alB 49))):=rfl
theorem zhu:execOp ρ { dst,op:=.alloc 40,type:=ty,pos,after,guard }= (do pure (.value (<-alB 40))):=rfl
theorem exV_bd:execOp ρ { dst,op:=.build 40 #[],type:=ty,pos,after,guard }= (do pure (.value (<-bdB 40))):=by simp only [execOp,bdB,List.map_toArray,List.map_nil]
end
theorem sizeV: (Tryz.prog.info? 40).map (·.size)=some 15:=by kernel_rfl
theorem sizeH: (Tryz.prog.info? 49).map (·.size)=some 10:=by kernel_rfl
theorem zgl (w:World) (b:Nat): (rdB 40 (.pointer (some ⟨b,0,none⟩))).run Tryz.prog w=rdF Tryz.prog w 40 15 b (bk w b):=zlc Tryz.underlying40 rfl sizeV
theorem zgn (w:World) (b:Nat) (cs:Array Value): (wrB 40 (.pointer (some ⟨b,0,none⟩)) (.agg cs)).run Tryz.prog w=wrF Tryz.prog w 40 15 b cs (bk w b):=zkv sizeV
theorem zuu (w:World) (b:Nat): (rdB 49 (.pointer (some ⟨b,0,none⟩))).run Tryz.prog w=rdF Tryz.prog w 49 10 b (bk w b):=zlc Tryz.underlying49 rfl sizeH
theorem zup (w:World) (b:Nat) (cs:Array Value): (wrB 49 (.pointer (some ⟨b,0,none⟩)) (.agg cs)).run Tryz.prog w=wrF Tryz.prog w 49 10 b cs (bk w b):=zkv sizeH
theorem infoV: (Tryz.prog.info? 40).map (fun i=>(i.zero,i.size))=some (some (.agg (vhC vh0 va0)),15):=by kernel_rfl
theorem zgi (w:World): (alB 40).run Tryz.prog w=.ok (.pointer (some ⟨w.heap.size,0,none⟩)) (w.alloc (.cells (vhC vh0 va0) 40)):=by
 unfold alB
 simp [go_sem,zero_of_info infoV]
theorem bdV_run (w:World): (bdB 40).run Tryz.prog w=.ok (.agg (vhC vh0 va0)) w:=run_build w _ _ _ (by kernel_rfl)
theorem vhC_one (v:Vh) (m:VA): (vhC v m).all (·.oneCell')=true:=by simp [vhC,Value.oneCell']
theorem bk_v {v:Vh} (h:w.heap[b]?=some (vhO v m)):bk w b=some (.cells (vhC v m) 40 (0,0)):=h
theorem rdF_V {fr:Nat×Nat} (v:Vh) (m:VA):rdF P w t 15 b (some (.cells (vhC v m) u fr))=.ok (.agg (vhC v m)) w:=zub rfl
theorem wrF_V (v v' :Vh) (m m' :VA):wrF P w t 15 b (vhC v' m') (some (.cells (vhC v m) u (0,0)))=.ok () (w.setRow b (vhC v' m')):=zxh rfl rfl (vhC_one _ _)
theorem ldV {v:Vh} (h:w.heap[b]?=some (vhO v m)): (loadVar 40 ⟨b,0,none⟩).run Tryz.prog w=.ok (vhv v m) w:=
 run_loadVar_row w b _ _ _ _ _ h Tryz.underlying40 rfl sizeV
theorem resV2 {fn:Func} {p u:Tmp} (h:fn.results=#[.cell p 40,.tmp u]) {v:Vh} {x:Value} (hp:tmps.getD p undef=.pointer (some ⟨b,0,none⟩)) (hx:tmps.getD u undef=x) (hb:w.heap[b]?=some (vhO v m)):
 (results fn tmps).run Tryz.prog w=.ok (.tuple #[vhv v m,x]) w:=by
 rw [Array.getD_eq_getD_getElem?] at hp hx;simp only [results,h]
 simp [Result.andThen,hp,hx,asAddr,ldV hb]
theorem resV3 {fn:Func} {p u z:Tmp} (h:fn.results=#[.cell p 40,.tmp u,.tmp z]) {v:Vh} {x y:Value} (hp:tmps.getD p undef=.pointer (some ⟨b,0,none⟩)) (hx:tmps.getD u undef=x) (hy:tmps.getD z undef=y) (hb:w.heap[b]?=some (vhO v m)):
 (results fn tmps).run Tryz.prog w=.ok (.tuple #[vhv v m,x,y]) w:=by
 rw [Array.getD_eq_getD_getElem?] at hp hx hy;simp only [results,h]
 simp [Result.andThen,hp,hx,hy,asAddr,ldV hb]
def hpC (x:Hp) (mo:OA):Array Value:=#[iV x.k,iV x.u,iV x.j,.slice mo.a1 mo.n1 mo.c1,.slice mo.a2 mo.n2 mo.c2,iV x.o.v,iV x.o.u,.slice mo.a3 mo.n3 mo.c3,.slice mo.a4 mo.n4 mo.c4,.slice mo.a5 mo.n5 mo.c5]
theorem zys (x:Hp) (mo:OA):hpv x mo=.agg (hpC x mo):=rfl
theorem zuq (w:World) (b o:Nat) (x:Hp) (mo:OA) (h: ∀j v,(hpC x mo).toList[j]?=some v->w.cell? ⟨b,o+j,none⟩=some v): (rdB 49 (.pointer (some ⟨b,o,none⟩))).run Tryz.prog w=.ok (.agg (hpC x mo)) w:=
 run_loadAt_mid w b o _ (hpC x mo).toList _ h Tryz.underlying49 rfl sizeH
theorem rdF_H {fr:Nat×Nat} (x:Hp) (m:OA):rdF P w t 10 b (some (.cells (hpC x m) u fr))=.ok (.agg (hpC x m)) w:=zub rfl
def of9:Of:=⟨[], [],0,0, [], [], []⟩
def hp9:Hp:=⟨0,0,0,of9⟩
def oa9:OA:=⟨none,0,0,none,0,0,none,0,0,none,0,0,none,0,0⟩
theorem wrF_H (x x' :Hp) (m m' :OA):wrF P w t 10 b (hpC x' m') (some (.cells (hpC x m) u (0,0)))=.ok () (w.setRow b (hpC x' m')):=zxh rfl rfl (by simp [hpC,Value.oneCell'])
theorem infoHp: (Tryz.prog.info? 49).map (fun i=>(i.zero,i.size))=some (some (.agg (hpC hp9 oa9)),10):=by kernel_rfl
theorem zur (w:World): (alB 49).run Tryz.prog w=.ok (.pointer (some ⟨w.heap.size,0,none⟩)) (w.alloc (.cells (hpC hp9 oa9) 49)):=by
 unfold alB
 simp [go_sem,zero_of_info infoHp]
def gaC (g:Gt) (m:GA):Array Value:=#[.slice m.a m.n m.c,iV g.fu,.bool g.up,iV g.t.r.v,.slice m.ak m.nk m.ck,iV g.t.r.t,iV g.t.ver,.slice m.av m.nv m.cv,.slice m.ad m.nd m.cd]
theorem zud (g:Gt) (m:GA):gtv g m=.agg (gaC g m):=rfl
section
variable (ρ:Operand->Value) (dst:Option Tmp) (x y:Operand) (ty:TypeId) (pos:String) (after:Array Edge) (guard:Option (Nat×Bool))
theorem zxe:execOp ρ { dst,op:=.load 35 x,type:=ty,pos,after,guard }= (do pure (.value (<-rdB 35 (ρ x)))):=rfl
theorem exG_st:execOp ρ { dst,op:=.store 35 x y,type:=ty,pos,after,guard }= (do wrB 35 (ρ x) (ρ y);pure .skip):=rfl
theorem exG_al:execOp ρ { dst,op:=.alloc 35,type:=ty,pos,after,guard }= (do pure (.value (<-alB 35))):=rfl
end
theorem zeroG: (Tryz.prog.info? 35).map (fun i=>(i.zero,i.size))=some (some (.agg (gaC gt0 ga0)),9):=by kernel_rfl
theorem sizeG: (Tryz.prog.info? 35).map (·.size)=some 9:=(zero_of_info zeroG).2
theorem rdG_run (w:World) (b:Nat): (rdB 35 (.pointer (some ⟨b,0,none⟩))).run Tryz.prog w=rdF Tryz.prog w 35 9 b (bk w b):=zlc Tryz.underlying35 rfl sizeG
theorem wrG_run (w:World) (b:Nat) (cs:Array Value): (wrB 35 (.pointer (some ⟨b,0,none⟩)) (.agg cs)).run Tryz.prog w=wrF Tryz.prog w 35 9 b cs (bk w b):=zkv sizeG
theorem alG_run (w:World): (alB 35).run Tryz.prog w=.ok (.pointer (some ⟨w.heap.size,0,none⟩)) (w.alloc (.cells (gaC gt0 ga0) 35)):=by
 unfold alB
 simp [go_sem,zero_of_info zeroG]
theorem rdF_G {fr:Nat×Nat} (g:Gt) (m:GA):rdF P w t 9 b (some (.cells (gaC g m) u fr))=.ok (.agg (gaC g m)) w:=zub rfl
theorem rdG_mid (w:World) (b o:Nat) (g:Gt) (m:GA) (h: ∀j v,(gaC g m).toList[j]?=some v->w.cell? ⟨b,o+j,none⟩=some v): (rdB 35 (.pointer (some ⟨b,o,none⟩))).run Tryz.prog w=.ok (.agg (gaC g m)) w:=
 run_loadAt_mid w b o _ (gaC g m).toList _ h Tryz.underlying35 rfl sizeG
theorem wrF_G (g g' :Gt) (m m' :GA):wrF P w t 9 b (gaC g' m') (some (.cells (gaC g m) u (0,0)))=.ok () (w.setRow b (gaC g' m')):=zxh rfl rfl (by simp [gaC,Value.oneCell'])
def unC (u:Un) (a:oA) (n c:Nat):Array Value:=#[.slice a n c,iV u.fu,.bool u.up,iV u.n,iV u.hv]
theorem zx9 (u:Un) (a:oA) (n c:Nat):unv u a n c=.agg (unC u a n c):=rfl
section
variable (ρ:Operand->Value) (dst:Option Tmp) (x y:Operand) (ty:TypeId) (pos:String) (after:Array Edge) (guard:Option (Nat×Bool))
theorem zy3:execOp ρ { dst,op:=.load 82 x,type:=ty,pos,after,guard }= (do pure (.value (<-rdB 82 (ρ x)))):=rfl
theorem exU_st:execOp ρ { dst,op:=.store 82 x y,type:=ty,pos,after,guard }= (do wrB 82 (ρ x) (ρ y);pure .skip):=rfl
theorem exU_al:execOp ρ { dst,op:=.alloc 82,type:=ty,pos,after,guard }= (do pure (.value (<-alB 82))):=rfl
end
theorem zeroU: (Tryz.prog.info? 82).map (fun i=>(i.zero,i.size))=some (some (.agg (unC un0 none 0 0)),5):=by kernel_rfl
theorem sizeU: (Tryz.prog.info? 82).map (·.size)=some 5:=(zero_of_info zeroU).2
theorem zy9 (w:World) (b:Nat): (rdB 82 (.pointer (some ⟨b,0,none⟩))).run Tryz.prog w=rdF Tryz.prog w 82 5 b (bk w b):=zlc Tryz.underlying82 rfl sizeU
theorem zy7 (w:World) (b:Nat) (cs:Array Value): (wrB 82 (.pointer (some ⟨b,0,none⟩)) (.agg cs)).run Tryz.prog w=wrF Tryz.prog w 82 5 b cs (bk w b):=zkv sizeU
theorem zy8 (w:World): (alB 82).run Tryz.prog w=.ok (.pointer (some ⟨w.heap.size,0,none⟩)) (w.alloc (.cells (unC un0 none 0 0) 82)):=by
 unfold alB
 simp [go_sem,zero_of_info zeroU]
theorem rdF_U {t2:TypeId} {fr:Nat×Nat} (u:Un) (a:oA) (n c:Nat):rdF P w t 5 b (some (.cells (unC u a n c) t2 fr))=.ok (.agg (unC u a n c)) w:=zub rfl
theorem zyz (w:World) (b o:Nat) (u:Un) (a:oA) (n c:Nat) (h: ∀j v,(unC u a n c).toList[j]?=some v->w.cell? ⟨b,o+j,none⟩=some v): (rdB 82 (.pointer (some ⟨b,o,none⟩))).run Tryz.prog w=.ok (.agg (unC u a n c)) w:=
 run_loadAt_mid w b o _ (unC u a n c).toList _ h Tryz.underlying82 rfl sizeU
theorem wrF_U {t2:TypeId} (u u' :Un) (a a' :oA) (n c n' c' :Nat):wrF P w t 5 b (unC u' a' n' c') (some (.cells (unC u a n c) t2 (0,0)))=.ok () (w.setRow b (unC u' a' n' c')):=zxh rfl rfl (by simp [unC,Value.oneCell'])
def ofC (v u:Int) (m:OA):Array Value:=#[.slice m.a1 m.n1 m.c1,.slice m.a2 m.n2 m.c2,iV v,iV u,.slice m.a3 m.n3 m.c3,.slice m.a4 m.n4 m.c4,.slice m.a5 m.n5 m.c5]
section
variable (ρ:Operand->Value) (dst:Option Tmp) (x y:Operand) (ty:TypeId) (pos:String) (after:Array Edge) (guard:Option (Nat×Bool))
theorem exO_ld:execOp ρ { dst,op:=.load 47 x,type:=ty,pos,after,guard }= (do pure (.value (<-rdB 47 (ρ x)))):=rfl
end
theorem zeroO: (Tryz.prog.info? 47).map (fun i=>(i.zero,i.size))=some (some (.agg (ofC 0 0 oa9)),7):=by kernel_rfl
theorem sizeO: (Tryz.prog.info? 47).map (·.size)=some 7:=(zero_of_info zeroO).2
theorem rdO_mid (w:World) (b o:Nat) (v u:Int) (m:OA) (h: ∀j x,(ofC v u m).toList[j]?=some x->w.cell? ⟨b,o+j,none⟩=some x): (rdB 47 (.pointer (some ⟨b,o,none⟩))).run Tryz.prog w=.ok (.agg (ofC v u m)) w:=
 run_loadAt_mid w b o _ (ofC v u m).toList _ h Tryz.underlying47 rfl sizeO
theorem zbt (h:w.ownsRow F t k v n vs) (hc:Chg C w w') (hn: ∀g,v.ownBlock=some g->¬C g):w'.ownsRow F t k v n vs:=by
 refine⟨h.1, ?_⟩
 rcases h.2 with h0| ⟨g,cap,cur,e,h1,h2,h3⟩
 { exact .inl h0 }
 { exact .inr ⟨g,cap,cur,e,h1,(hc.block g (zak h2) (hn g (by rw [e];rfl))).trans h2,h3⟩ }
theorem zbg {F' :Nat} {t' :TypeId} {k' n' :Nat} {v' :Value} {vs' :LV} (h:w.ownsRow F t k v n vs) (h' :w.ownsRow F' t' k' v' n' vs') (ht:t≠t'): ∀g,v.ownBlock=some g->v'.ownBlock≠some g:=fun g e e' =>by
 obtain ⟨c,hc⟩:=own_ty h e;obtain ⟨c',hc'⟩:=own_ty h' e';exact ty_ne hc hc' ht rfl
theorem zdd {m c:Nat} (h:w.ownsRow F t k (.slice a m c) n vs):IsRow w a vs:=by
 rcases h.2 with ⟨e,e0⟩| ⟨g,cap,cur,e,-⟩
 { exact .inl (kn (by rw [h.1,e0,Nat.zero_mul])) }
 {
 cases e;exact .inr ⟨g,0,rfl,fun j u hu=>by have:=h.cells (g:=g) rfl j u hu;rwa [zc2] at this⟩ }
def LRow (w:World) (F:Nat) (K:Nat->Prop) (v:Value) (ls:LL):Prop:=∃vs,w.ownsRow F 26 1 v ls.length vs/\Vs (LR w K) ls vs
theorem LRow.keep (h:LRow w F K v ls) (hc:Chg C w w') (hCK: ∀b,C b->K b) (hn: ∀g,v.ownBlock=some g->¬C g):LRow w' F K v ls:=by
 obtain ⟨vs,h1,h2⟩:=h;exact⟨vs,zbt h1 hc hn,h2.mono (LR.chg (hc.mono hCK))⟩
theorem LRow.wide (h:LRow w F K v ls) (hK: ∀b,K' b->K b\/w.heap.size<=b):LRow w F K' v ls:=by
 obtain ⟨vs,h1,h2⟩:=h;exact⟨vs,h1,h2.mono (LR.off hK)⟩
def OR (w:World) (K:Nat->Prop) (o:Of) (c:LV):Prop:=
 o.roots= []/\o.rsigs= []/\∃m:OA,c= (ofC o.v o.u m).toList/\m.n1=0/\m.n2=0/\(BT w m.a3 m.n3 o.ts/\Ao o.ts K m.a3)/\(BI w m.a4 m.n4 o.sigs/\Ao o.sigs K m.a4)/\(∃vs,IsRow w m.a5 vs/\Vs (LR w K) o.imgs vs/\Ao vs K m.a5)/\o.imgs.length=m.n5/\m.n5<=maxLen
theorem OR.len (o:Of) (c:LV) (h:OR w K o c):c.length=7:=by obtain ⟨_,_,_,rfl,_⟩:=h;rfl
theorem OR.chg (hc:Chg K w w') (o:Of) (c:LV) (h:OR w K o c):OR w' K o c:=by
 obtain ⟨h1,h2,m,e,n1,n2,⟨t1,t2⟩,⟨s1,s2⟩,⟨vs,i1,i2,i3⟩,i4,i5⟩:=h;exact⟨h1,h2,m,e,n1,n2,⟨⟨t1.at_.chg hc t2,t1.len,t1.max⟩,t2⟩,⟨⟨s1.at_.chg hc s2,s1.len,s1.max⟩,s2⟩,⟨vs,i1.chg hc i3,i2.mono (LR.chg hc),i3⟩,i4,i5⟩
theorem OR.off (hK: ∀k,K' k->K k\/w.heap.size<=k) (o:Of) (c:LV) (h:OR w K o c):OR w K' o c:=by
 obtain ⟨h1,h2,m,e,n1,n2,⟨t1,t2⟩,⟨s1,s2⟩,⟨vs,i1,i2,i3⟩,i4,i5⟩:=h;exact⟨h1,h2,m,e,n1,n2,⟨t1,t1.at_.wide t2 hK⟩,⟨s1,s1.at_.wide s2 hK⟩,⟨vs,i1,i2.mono (LR.off hK),i1.wide i3 hK⟩,i4,i5⟩
def ORow (w:World) (F:Nat) (K:Nat->Prop) (v:Value) (os:List Of):Prop:=∃vs,w.ownsRow F 47 7 v os.length vs/\Vs (OR w K) os vs
theorem ORow.keep (h:ORow w F K v os) (hc:Chg C w w') (hCK: ∀b,C b->K b) (hn: ∀g,v.ownBlock=some g->¬C g):ORow w' F K v os:=by
 obtain ⟨vs,h1,h2⟩:=h;exact⟨vs,zbt h1 hc hn,h2.mono (OR.chg (hc.mono hCK))⟩
theorem ORow.wide (h:ORow w F K v os) (hK: ∀b,K' b->K b\/w.heap.size<=b):ORow w F K' v os:=by
 obtain ⟨vs,h1,h2⟩:=h;exact⟨vs,h1,h2.mono (OR.off hK)⟩
def KO (B:Nat) (tx l f o:Value) (b:Nat):Prop:=b<=B\/tx.ownBlock=some b\/l.ownBlock=some b\/f.ownBlock=some b\/o.ownBlock=some b
structure FO (W:World) (B:Nat) (K:Nat->Prop) (tx l f o:Value) (s:Fo) (wr:World):Prop where
 hB:B+1=W.heap.size
 bel:Below B W wr
 bk:BkS wr W.heap.size B tx s.ss
 lr:wr.ownsRow W.heap.size 111 2 l s.sg.length (sgs s.sg)
 fr:LRow wr W.heap.size K f s.fst
 or:ORow wr W.heap.size K o s.offs
 sub: ∀b,KO B tx l f o b->K b
theorem FO.lo {tx l f o:Value} {s:Fo} (h:FO W B K tx l f o s wr): ∀b,(b=B\/tx.ownBlock=some b\/l.ownBlock=some b\/f.ownBlock=some b\/o.ownBlock=some b)->B<=b:=fun b e=>by
 obtain ⟨vf,hf,-⟩:=h.fr;obtain ⟨vo,ho,-⟩:=h.or;have:=h.hB
 rcases e with e|e|e|e|e
 { omega }
 { have:=h.bk.row.lt b e;omega }
 { have:=h.lr.lt b e;omega }
 { have:=hf.lt b e;omega }
 { have:=ho.lt b e;omega }
theorem FO.wide {tx l f o:Value} {s:Fo} (h:FO W B K tx l f o s wr) (hK: ∀b,K' b->K b\/wr.heap.size<=b) (hs: ∀b,KO B tx l f o b->K' b):FO W B K' tx l f o s wr:=
 ⟨h.hB,h.bel,h.bk,h.lr,h.fr.wide hK,h.or.wide hK,hs⟩
theorem zgo (h:Below B W wr) (hB:B<=W.heap.size) (hc:Chg C wr w') (hlo: ∀b,C b->B<=b):Below B W w' :=h.trans (hc.bl hlo (kc hB h.size))
theorem FO.keep {tx l f o:Value} {s:Fo} (h:FO W B K tx l f o s wr) (hc:Chg C wr w') (hCK: ∀b,C b->K b) (hlo: ∀b,C b->B<=b) (hn: ∀b,KO B tx l f o b->¬C b):FO W B K tx l f o s w' :=
 ⟨h.hB,zgo h.bel (by have:=h.hB;omega) hc hlo,⟨(hc.block B (zak h.bk.box) (hn B (.inl (kQ _)))).trans h.bk.box,zbt h.bk.row hc (fun g e=>hn g (.inr (.inl e)))⟩,zbt h.lr hc (fun g e=>hn g (.inr (.inr (.inl e)))),h.fr.keep hc hCK (fun g e=>hn g (.inr (.inr (.inr (.inl e))))),h.or.keep hc hCK (fun g e=>hn g (.inr (.inr (.inr (.inr e))))),h.sub⟩
def Nw (w:World) (v v' :Value):Prop:=v'.ownBlock=v.ownBlock\/∃g,v'.ownBlock=some g/\w.heap.size<=g
theorem Nw.or {v' :Value} (h:Nw w v v') (e:v'.ownBlock=some b):v.ownBlock=some b\/w.heap.size<=b:=by
 rcases h with h| ⟨g,h1,h2⟩
 { exact .inl (by rw [<-h];exact e) }
 { rw [h1] at e;cases e;exact .inr h2 }
structure FAp (B:Nat) (tx l f o:Value):Prop where
 bt:tx.ownBlock≠some B
 bl:l.ownBlock≠some B
 bf:f.ownBlock≠some B
 bo:o.ownBlock≠some B
 tl: ∀g,tx.ownBlock=some g->l.ownBlock≠some g
 tf: ∀g,tx.ownBlock=some g->f.ownBlock≠some g
 t_o: ∀g,tx.ownBlock=some g->o.ownBlock≠some g
 lf: ∀g,l.ownBlock=some g->f.ownBlock≠some g
 lo: ∀g,l.ownBlock=some g->o.ownBlock≠some g
 fo: ∀g,f.ownBlock=some g->o.ownBlock≠some g
section
variable {W:World} {B:Nat} {K K' :Nat->Prop} {tx l f o:Value} {s:Fo} {wr w' :World}
theorem FO.ap (h:FO W B K tx l f o s wr):FAp B tx l f o:=by
 obtain ⟨vf,hf,-⟩:=h.fr;obtain ⟨vo,ho,-⟩:=h.or;exact⟨zb1 h.bk.row h.bk.box (by decide),zb1 h.lr h.bk.box (by decide),zb1 hf h.bk.box (by decide),zb1 ho h.bk.box (by decide),zbg h.bk.row h.lr (by decide),zbg h.bk.row hf (by decide),zbg h.bk.row ho (by decide),zbg h.lr hf (by decide),zbg h.lr ho (by decide),zbg hf ho (by decide)⟩
theorem FO.book (h:FO W B K tx l f o s wr) {tx' :Value} (hb:BkS w' W.heap.size B tx' ss') (hc:Chg (fun b=>b=B\/tx.ownBlock=some b) wr w') (hK: ∀b,K' b->K b\/wr.heap.size<=b) (hs: ∀b,KO B tx' l f o b->K' b):FO W B K' tx' l f o ⟨ss',s.sg,s.fst,s.offs⟩ w' :=by
 have a:=h.ap;have hCK: ∀b,(b=B\/tx.ownBlock=some b)->K b:=fun b e=>h.sub b (e.imp Kg .inl)
 have hlo: ∀b,(b=B\/tx.ownBlock=some b)->B<=b:=fun b e=>h.lo b (e.imp id .inl)
 have hK2: ∀b,K' b->K b\/w'.heap.size<=b\/wr.heap.size<=b:=fun b e=>(hK b e).imp id .inr
 have f1:=(h.fr.wide (K' :=fun b=>K b\/wr.heap.size<=b) fun b e=>e).keep hc (fun b e=>.inl (hCK b e)) (fun g e c=>by rcases c with c|c;exact a.bf (by rw [e,c]);exact a.tf g c e);have o1:=(h.or.wide (K' :=fun b=>K b\/wr.heap.size<=b) fun b e=>e).keep hc (fun b e=>.inl (hCK b e)) (fun g e c=>by rcases c with c|c;exact a.bo (by rw [e,c]);exact a.t_o g c e);exact⟨h.hB,zgo h.bel (by have:=h.hB;omega) hc hlo,hb,zbt h.lr hc (fun g e c=>by rcases c with c|c;exact a.bl (by rw [e,c]);exact a.tl g c e),f1.wide fun b e=>.inl (hK b e),o1.wide fun b e=>.inl (hK b e),hs⟩
theorem FO.sign (h:FO W B K tx l f o s wr) {l' :Value} (hb:w'.ownsRow W.heap.size 111 2 l' sg'.length (sgs sg')) (hc:Chg (fun b=>l.ownBlock=some b) wr w') (hK: ∀b,K' b->K b\/wr.heap.size<=b) (hs: ∀b,KO B tx l' f o b->K' b):FO W B K' tx l' f o ⟨s.ss,sg',s.fst,s.offs⟩ w' :=by
 have a:=h.ap;have hCK: ∀b,l.ownBlock=some b->K b:=fun b e=>h.sub b (.inr (.inr (.inl e)))
 have hlo: ∀b,l.ownBlock=some b->B<=b:=fun b e=>h.lo b (.inr (.inr (.inl e)))
 have f1:=(h.fr.wide (K' :=fun b=>K b\/wr.heap.size<=b) fun b e=>e).keep hc (fun b e=>.inl (hCK b e)) (fun g e c=>a.lf g c e);have o1:=(h.or.wide (K' :=fun b=>K b\/wr.heap.size<=b) fun b e=>e).keep hc (fun b e=>.inl (hCK b e)) (fun g e c=>a.lo g c e);exact⟨h.hB,zgo h.bel (by have:=h.hB;omega) hc hlo,⟨(hc.block B (zak h.bk.box) (fun e=>a.bl e)).trans h.bk.box,zbt h.bk.row hc (fun g e c=>a.tl g e c)⟩,hb,f1.wide fun b e=>.inl (hK b e),o1.wide fun b e=>.inl (hK b e),hs⟩
theorem FO.first (h:FO W B K tx l f o s wr) {f' :Value} (hb:LRow w' W.heap.size (fun b=>K b\/wr.heap.size<=b) f' fs') (hc:Chg (fun b=>f.ownBlock=some b) wr w') (hK: ∀b,K' b->K b\/wr.heap.size<=b) (hs: ∀b,KO B tx l f' o b->K' b):FO W B K' tx l f' o ⟨s.ss,s.sg,fs',s.offs⟩ w' :=by
 have a:=h.ap;have hCK: ∀b,f.ownBlock=some b->K b:=fun b e=>h.sub b (.inr (.inr (.inr (.inl e))))
 have hlo: ∀b,f.ownBlock=some b->B<=b:=fun b e=>h.lo b (.inr (.inr (.inr (.inl e))))
 have o1:=(h.or.wide (K' :=fun b=>K b\/wr.heap.size<=b) fun b e=>e).keep hc (fun b e=>.inl (hCK b e)) (fun g e c=>a.fo g c e);exact⟨h.hB,zgo h.bel (by have:=h.hB;omega) hc hlo,⟨(hc.block B (zak h.bk.box) (fun e=>a.bf e)).trans h.bk.box,zbt h.bk.row hc (fun g e c=>a.tf g e c)⟩,zbt h.lr hc (fun g e c=>a.lf g e c),hb.wide fun b e=>.inl (hK b e),o1.wide fun b e=>.inl (hK b e),hs⟩
theorem FO.offer (h:FO W B K tx l f o s wr) {o' :Value} {os' :List Of} (hb:ORow w' W.heap.size (fun b=>K b\/wr.heap.size<=b) o' os') (hc:Chg (fun b=>o.ownBlock=some b) wr w') (hK: ∀b,K' b->K b\/wr.heap.size<=b) (hs: ∀b,KO B tx l f o' b->K' b):FO W B K' tx l f o' ⟨s.ss,s.sg,s.fst,os'⟩ w' :=by
 have a:=h.ap;have hCK: ∀b,o.ownBlock=some b->K b:=fun b e=>h.sub b (.inr (.inr (.inr (.inr e))))
 have hlo: ∀b,o.ownBlock=some b->B<=b:=fun b e=>h.lo b (.inr (.inr (.inr (.inr e))))
 have f1:=(h.fr.wide (K' :=fun b=>K b\/wr.heap.size<=b) fun b e=>e).keep hc (fun b e=>.inl (hCK b e)) (fun g e c=>a.fo g e c);exact⟨h.hB,zgo h.bel (by have:=h.hB;omega) hc hlo,⟨(hc.block B (zak h.bk.box) (fun e=>a.bo e)).trans h.bk.box,zbt h.bk.row hc (fun g e c=>a.t_o g e c)⟩,zbt h.lr hc (fun g e c=>a.lo g e c),f1.wide fun b e=>.inl (hK b e),hb.wide fun b e=>.inl (hK b e),hs⟩
end
structure FQ where
 tx:Value
 l:Value
 f:Value
 o:Value
 ts:Value
 im:Value
 Bo:Nat
def KI (B:Nat) (q:FQ) (b:Nat):Prop:=KO B q.tx q.l q.f q.o b\/b=q.Bo\/q.ts.ownBlock=some b\/q.im.ownBlock=some b
structure FI (W:World) (B:Nat) (q:FQ) (s:Fo) (i:Fi) (v u:Int) (wr:World):Prop where
 o:FO W B (KI B q) q.tx q.l q.f q.o s wr
 box: ∃bs,wr.heap[q.Bo]?=some (.cells #[nV,nV,iV v,iV u,q.ts,sV bs 2 2,q.im] 47 (0,0))/\BI wr (some ⟨bs,0,none⟩) 2 [3,5]/\¬KI B q bs
 tr:wr.ownsRow W.heap.size 163 3 q.ts i.ts.length (tgs i.ts)
 ir:LRow wr W.heap.size (KI B q) q.im i.ims
 n1:q.o.ownBlock≠some q.Bo
 n2: ∀g,q.im.ownBlock=some g->q.f.ownBlock≠some g
 lo:W.heap.size<=q.Bo
 bk:s.ss=i.ss
def obC (v u:Int) (ts im:Value) (bs:Nat):Array Value:=#[nV,nV,iV v,iV u,ts,sV bs 2 2,im]
section
variable {W:World} {B:Nat} {q:FQ} {s:Fo} {i:Fi} {v u:Int} {wr w' :World}
theorem FI.apart (h:FI W B q s i v u wr): ∀b,KO B q.tx q.l q.f q.o b->b≠q.Bo/\q.ts.ownBlock≠some b/\q.im.ownBlock≠some b:=by
 obtain ⟨bs,hb,-⟩:=h.box;obtain ⟨vf,hf,-⟩:=h.o.fr;obtain ⟨vo,ho,-⟩:=h.o.or;obtain ⟨vi,hi,-⟩:=h.ir;have:=h.lo;have:=h.o.hB;intro b e
 rcases e with e|e|e|e|e
 { exact⟨by omega,fun c=>by have:=h.tr.lt b c;omega,fun c=>by have:=hi.lt b c;omega⟩ }
 { exact⟨fun c=>zb1 h.o.bk.row hb (by decide) (by rw [<-c];exact e),fun c=>zbg h.o.bk.row h.tr (by decide) b e c,fun c=>zbg h.o.bk.row hi (by decide) b e c⟩ }
 { exact⟨fun c=>zb1 h.o.lr hb (by decide) (by rw [<-c];exact e),fun c=>zbg h.o.lr h.tr (by decide) b e c,fun c=>zbg h.o.lr hi (by decide) b e c⟩ }
 { exact⟨fun c=>zb1 hf hb (by decide) (by rw [<-c];exact e),fun c=>zbg hf h.tr (by decide) b e c,fun c=>h.n2 b c e⟩ }
 { exact⟨fun c=>h.n1 (by rw [<-c];exact e),fun c=>zbg ho h.tr (by decide) b e c,fun c=>zbg ho hi (by decide) b e c⟩ }
theorem FI.rest (h:FI W B q s i v u wr) (hc:Chg C wr w') (hC: ∀b,C b->KO B q.tx q.l q.f q.o b) (hK: ∀b,K' b->KI B q b\/wr.heap.size<=b):
 (∃bs,w'.heap[q.Bo]?=some (.cells (obC v u q.ts q.im bs) 47 (0,0))/\BI w' (some ⟨bs,0,none⟩) 2 [3,5]/\¬K' bs)/\w'.ownsRow W.heap.size 163 3 q.ts i.ts.length (tgs i.ts)/\LRow w' W.heap.size K' q.im i.ims:=by
 have a:=h.apart;obtain ⟨bs,hb,h1,h2⟩:=h.box;have hbs:bs<wr.heap.size:=by
  rcases h1.at_ with e| ⟨b,off,e,hc⟩
  { cases e }
  { cases e;exact zah (hc 0 (by simp)) }
 refine⟨⟨bs,(hc.block q.Bo (zak hb) (fun e=>(a _ (hC _ e)).1 rfl)).trans hb,⟨h1.at_.chg hc (.at_ fun e=>h2 (.inl (hC _ e))),h1.len,h1.max⟩,fun e=> ?_⟩,zbt h.tr hc (fun g e c=>(a g (hC g c)).2.1 e), ?_⟩
 {
 rcases hK bs e with e|e
 { exact h2 e }
 { omega } }
 { exact((h.ir.wide (K' :=fun b=>KI B q b\/wr.heap.size<=b) fun b e=>e).keep hc (fun b e=>.inl (.inl (hC b e))) (fun g e c=>(a g (hC g c)).2.2 e)).wide fun b e=>.inl (hK b e) }
theorem FI.name (h:FI W B q s i v u wr) {tx' :Value} (hb:BkS w' W.heap.size B tx' ss') (hc:Chg (fun b=>b=B\/q.tx.ownBlock=some b) wr w') (hn:Nw wr q.tx tx'):
 FI W B ⟨tx',q.l,q.f,q.o,q.ts,q.im,q.Bo⟩ ⟨ss',s.sg,s.fst,s.offs⟩ ⟨ss',i.ts,i.ims⟩ v u w' :=by
 have hK: ∀b,KI B ⟨tx',q.l,q.f,q.o,q.ts,q.im,q.Bo⟩ b->KI B q b\/wr.heap.size<=b:=fun b e=>by
  rcases e with (e|e|e)|e
  { exact .inl (.inl (.inl e)) }
  { exact(hn.or e).imp (fun e=>.inl (.inr (.inl e))) id }
  { exact .inl (.inl (.inr (.inr e))) }
  { exact .inl (.inr e) }
 obtain ⟨r1,r2,r3⟩:=h.rest hc (fun b e=>e.imp Kg .inl) hK;exact⟨h.o.book hb hc hK (fun b e=>.inl e),r1,r2,r3,h.n1,h.n2,h.lo,rfl⟩
theorem FI.sign (h:FI W B q s i v u wr) {l' :Value} (hb:w'.ownsRow W.heap.size 111 2 l' sg'.length (sgs sg')) (hc:Chg (fun b=>q.l.ownBlock=some b) wr w') (hn:Nw wr q.l l'):
 FI W B ⟨q.tx,l',q.f,q.o,q.ts,q.im,q.Bo⟩ ⟨s.ss,sg',s.fst,s.offs⟩ i v u w' :=by
 have hK: ∀b,KI B ⟨q.tx,l',q.f,q.o,q.ts,q.im,q.Bo⟩ b->KI B q b\/wr.heap.size<=b:=fun b e=>by
  rcases e with (e|e|e|e)|e
  { exact .inl (.inl (.inl e)) }
  { exact .inl (.inl (.inr (.inl e))) }
  { exact(hn.or e).imp (fun e=>.inl (.inr (.inr (.inl e)))) id }
  { exact .inl (.inl (.inr (.inr (.inr e)))) }
  { exact .inl (.inr e) }
 obtain ⟨r1,r2,r3⟩:=h.rest hc (fun b e=>.inr (.inr (.inl e))) hK;exact⟨h.o.sign hb hc hK (fun b e=>.inl e),r1,r2,r3,h.n1,h.n2,h.lo,h.bk⟩
theorem FI.first (h:FI W B q s i v u wr) {f' :Value} (hb:LRow w' W.heap.size (fun b=>KI B q b\/wr.heap.size<=b) f' fs') (hc:Chg (fun b=>q.f.ownBlock=some b) wr w') (hn:Nw wr q.f f'):
 FI W B ⟨q.tx,q.l,f',q.o,q.ts,q.im,q.Bo⟩ ⟨s.ss,s.sg,fs',s.offs⟩ i v u w' :=by
 have hK: ∀b,KI B ⟨q.tx,q.l,f',q.o,q.ts,q.im,q.Bo⟩ b->KI B q b\/wr.heap.size<=b:=fun b e=>by
  rcases e with (e|e|e|e|e)|e
  { exact .inl (.inl (.inl e)) }
  { exact .inl (.inl (.inr (.inl e))) }
  { exact .inl (.inl (.inr (.inr (.inl e)))) }
  { exact(hn.or e).imp (fun e=>.inl (.inr (.inr (.inr (.inl e))))) id }
  { exact .inl (.inl (.inr (.inr (.inr (.inr e))))) }
  { exact .inl (.inr e) }
 obtain ⟨r1,r2,r3⟩:=h.rest hc (fun b e=>.inr (.inr (.inr (.inl e)))) hK;obtain ⟨vi,hi,-⟩:=h.ir;refine⟨h.o.first hb hc hK (fun b e=>.inl e),r1,r2,r3,h.n1,fun g e c=> ?_,h.lo,h.bk⟩
 rcases hn.or c with c|c
 { exact h.n2 g e c }
 { have:=(hi.lt g e).2;omega }
end
section
attribute [local go_sem ↓] kM kO
theorem zyq (v:Vh) (m:VA) (x:Hp) (mo:OA) (w:World) (h:VIn w (fun _=>False) m v) (hT:Tab w) (ho:BO w mo x.o):
 Cq 11 #[vhv v m,hpv x mo] w (DoAns w (doS' v x)):=by
 by_cases he:vhE v=0
 {
 by_cases hz: (hapS v x).2=0
 { exact do_ok v m x mo w h hT ho he hz }
 { exact do_err v m x mo w h hT ho he hz } }
 {
 exact do_bad v m x mo w h hT ho he }
end
section
attribute [local go_sem ↓] kM kO
def runS (v:Vh) (l:List Hp):Vh×LI×Int:=if vhE v≠0 then(vh0, [],vhE v) else if 160<l.length then(vh0, [],2) else((runL v l).1,(runL v l).2,0)
def zfr (w:World) (r:Vh×LI×Int) (e:Ending) (w' :World):Prop:=
 (∃m sa n c,e=.returned (.tuple #[vhv r.1 m,.slice sa n c,iV r.2.2])/\VIn w' (fun b=>b<w.heap.size/\Sm w b) m r.1/\BI w' sa n r.2.1/\zal w.heap.size sa)/\bZ w w'
def HR (w:World) (_:Nat->Prop) (x:Hp) (c:LV):Prop:=
 ∃mo:OA,c= [iV x.k,iV x.u,iV x.j,.slice mo.a1 mo.n1 mo.c1,.slice mo.a2 mo.n2 mo.c2,iV x.o.v,iV x.o.u,.slice mo.a3 mo.n3 mo.c3,.slice mo.a4 mo.n4 mo.c4,.slice mo.a5 mo.n5 mo.c5]/\BO w mo x.o
theorem HR.len (x:Hp) (c:LV) (h:HR w K x c):c.length=10:=by obtain ⟨_,rfl,_⟩:=h;rfl
theorem zuh {i:Nat} (hr:IsRow w a vs) (h:Vs (HR w K) l vs) (hi:l[i]?=some x): ∃b off,∃mo:OA,a=some ⟨b,off,none⟩/\BO w mo x.o/\(∀j v, [iV x.k,iV x.u,iV x.j,.slice mo.a1 mo.n1 mo.c1,.slice mo.a2 mo.n2 mo.c2,iV x.o.v,iV x.o.u,.slice mo.a3 mo.n3 mo.c3,.slice mo.a4 mo.n4 mo.c4,.slice mo.a5 mo.n5 mo.c5][j]?=some v->w.cell? ⟨b,off+i * 10+j,none⟩=some v):=by
 obtain ⟨b,off,c,rfl,⟨mo,rfl,h1⟩,hc⟩:=hr.elem HR.len (by decide) h hi;exact⟨b,off,mo,rfl,h1,hc⟩
theorem run_bad (v:Vh) (m:VA) (l:List Hp) (a:oA) (n c:Nat) (w:World) (h:VIn w (fun _=>False) m v) (he:vhE v≠0):
 Cq 21 #[vhv v m,.slice a n c] w (zfr w (runS v l)):=by
 have HE:Hd (runS v l= (vh0, [],vhE v)):=by show _=_;unfold runS;rw [KK he]
 have hw:bZ w ((w.alloc (.cells (aV m v) 40)).alloc (.cells aZ 40)):=bA2;have b1:=uH (zau w (.cells (aV m v) 40) (.cells aZ 40));have HC:=uH (fun W (hW:bZ w W)=>zct v m W (h.bl hW));clear h;unfold vhv vhC at HC;unfold vhv vhC;go_enter Tryz.func21,Tryz.ntmps21;go_wp2_with fail;generalize ((w.alloc (.cells (aV m v) 40)).alloc (.cells aZ 40))=W at *;refine(zae HC _ hw).mono ?_;rintro e w2 ⟨rfl,hb⟩;replace b1:=uH (zab b1.o hb);replace hw:=bT hw hb;clear HC hb;have d: (vhE v !=0)=true:=by simpa using he
 clear he;generalize vhE v=y at *;obtain ⟨z0,z1,z2,z3,z4,z5,z6,z7,z8,z9,z10,z11,z12,z13,z14⟩:=cl15 b1.o;obtain ⟨y0,y1,y2,y3,y4,y5,y6,y7,y8,y9,y10,y11,y12,y13,y14⟩:=fr15 b1.o;go_wp2_with fail;refine kT (v:=.tuple #[vhv vh0 va0,nV,iV y]) (by simp [results,Tryz.results21,go_sem,vhv,vhC,vh0,va0,ga0,gt0,z0,z1,z2,z3,z4,z5,z6,z7,z8,z9,z10,z11,z12,z13,z14]) rfl ?_;have hbF:bZ w (puts w2 (w.heap.size+1) 0 [nV,nV,nV,iV 0,.bool false,iV 0,nV,iV 0,iV 0,nV,nV,nV,nV,nV,iV 0]):=hw.trans (zbd _ (by omega) hw.size);have hfin:zfr w (runS v l) (.returned (.tuple #[vhv vh0 va0,nV,iV y])) (puts w2 (w.heap.size+1) 0 [nV,nV,nV,iV 0,.bool false,iV 0,nV,iV 0,iV 0,nV,nV,nV,nV,nV,iV 0]):=by rw [HE.o];exact⟨⟨va0,none,0,0,rfl,vin0 _ _,⟨.inl rfl,rfl,by decide⟩,zal.nil _⟩,hbF⟩
 exact hfin
theorem run_many (v:Vh) (m:VA) (l:List Hp) (a:oA) (n c:Nat) (w:World) (h:VIn w (fun _=>False) m v) (hl:l.length=n) (he:vhE v=0) (hn:160<n):
 Cq 21 #[vhv v m,.slice a n c] w (zfr w (runS v l)):=by
 have HE:Hd (runS v l= (vh0, [],2)):=by show _=_;unfold runS;rw [KJ (by simpa using he),KK (by omega)]
 have hnI: (160:Int)< (n:Int):=by omega
 clear hl hn;have hw:bZ w ((w.alloc (.cells (aV m v) 40)).alloc (.cells aZ 40)):=bA2;have b1:=uH (zau w (.cells (aV m v) 40) (.cells aZ 40));have HC:=uH (fun W (hW:bZ w W)=>zct v m W (h.bl hW));clear h;unfold vhv vhC at HC;unfold vhv vhC;go_enter Tryz.func21,Tryz.ntmps21;go_wp2_with fail;generalize ((w.alloc (.cells (aV m v) 40)).alloc (.cells aZ 40))=W at *;refine(zae HC _ hw).mono ?_;rintro e w2 ⟨rfl,hb⟩;replace b1:=uH (zab b1.o hb);replace hw:=bT hw hb;clear HC hb;rw [he];clear he;obtain ⟨z0,z1,z2,z3,z4,z5,z6,z7,z8,z9,z10,z11,z12,z13,z14⟩:=cl15 b1.o;obtain ⟨y0,y1,y2,y3,y4,y5,y6,y7,y8,y9,y10,y11,y12,y13,y14⟩:=fr15 b1.o;go_wp2_with fail;refine kT (v:=.tuple #[vhv vh0 va0,nV,iV 2]) (by simp [results,Tryz.results21,go_sem,vhv,vhC,vh0,va0,ga0,gt0,z0,z1,z2,z3,z4,z5,z6,z7,z8,z9,z10,z11,z12,z13,z14]) rfl ?_;have hbF:bZ w (puts w2 (w.heap.size+1) 0 [nV,nV,nV,iV 0,.bool false,iV 0,nV,iV 0,iV 0,nV,nV,nV,nV,nV,iV 0]):=hw.trans (zbd _ (by omega) hw.size);have hfin:zfr w (runS v l) (.returned (.tuple #[vhv vh0 va0,nV,iV 2])) (puts w2 (w.heap.size+1) 0 [nV,nV,nV,iV 0,.bool false,iV 0,nV,iV 0,iV 0,nV,nV,nV,nV,nV,iV 0]):=by rw [HE.o];exact⟨⟨va0,none,0,0,rfl,vin0 _ _,⟨.inl rfl,rfl,by decide⟩,zal.nil _⟩,hbF⟩
 exact hfin
end
def KR (w:World) (B:Nat) (b:Nat):Prop:=(b<w.heap.size/\Sm w b)\/b=w.heap.size+1\/b=B\/b=B+1
structure RInv (w:World) (B n:Nat) (v:Vh) (l:List Hp) (k:Nat) (vk:Vh) (mk:VA) (wq:World):Prop where
 bel:bZ w wq
 res:wq.heap[w.heap.size+1]?=some (vhO vh0 va0)
 own:wq.heap[B]?=some (vhO vk mk)
 said: ∃(cur:Array Value) (sd:LI),wq.heap[B+1]?=some (.cells cur 51 (0,0))/\cur.size=n/\sd.length=k/\(∀(i:Nat) (x:Int),sd[i]?=some x->cur[i]?=some (iV x))/\runL v l= ((runL vk (l.drop k)).1,sd++(runL vk (l.drop k)).2)
 veh:VIn wq (KR w B) mk vk
 hB:w.heap.size+1<B
theorem drop_at {α:Type} {l:List α} {x:α} (h:l[k]?=some x):l.drop k=x::l.drop (k+1):=by
 obtain ⟨hk,rfl⟩:=kY.1 h;exact kq hk
theorem zie {u:Value} (h:w.heap[b]?=some (.cells cur t (0,0))): (w.setCell ⟨b,k,none⟩ u).heap[b]?=some (.cells (cur.setIfInBounds k u) t (0,0)):=by
 simp only [World.setCell,KP]
 simp [h]
theorem zeq {b' :Nat} {u:Value} {o:Obj} (h:w.heap[b']?=some o) (hn:b≠b'): (w.setCell ⟨b,k,none⟩ u).heap[b']?=some o:=by
 rw [ki _ _ _ _ (fun e=>hn e.symm)];exact h
theorem zl2 {sd:LI} {e:Int} (hb:w.heap[b]?=some (.cells cur 51 (0,0))) (hn:cur.size=n) (hk:k<n) (hl:sd.length=k) (hs: ∀(i:Nat) (x:Int),sd[i]?=some x->cur[i]?=some (iV x)):
 ∃cur' :Array Value,(w.setCell ⟨b,k,none⟩ (iV e)).heap[b]?=some (.cells cur' 51 (0,0))/\cur'.size=n/\(sd++ [e]).length=k+1/\(∀(i:Nat) (x:Int),(sd++ [e])[i]?=some x->cur'[i]?=some (iV x)):=by
 refine⟨_,zie hb,by simpa using hn,by simp [hl],fun i x hx=> ?_⟩
 by_cases hi:i<k
 {
 rw [KD (by omega)] at hx;rw [Array.getElem?_setIfInBounds_ne (by omega)];exact hs i x hx }
 {
 have hik:i=k:=by have:=(kY.1 hx).1;simp at this;omega
 subst hik;rw [KC (by omega),hl] at hx
 simp at hx
 subst hx;exact Array.getElem?_setIfInBounds_self_of_lt (by omega) }
theorem KR.sm {v:Vh} {vk:Vh} {mk:VA} {wq:World} (h:RInv w B n v l k vk mk wq) (hn:n<=160) (hb:bZ wq W) (hk:KR w B b):b<W.heap.size/\Sm W b:=by
 have hs:=hb.size;have put: ∀{b:Nat} {cs:Array Value} {t:TypeId},wq.heap[b]?=some (.cells cs t (0,0))->cs.size<192->b<W.heap.size/\Sm W b:=fun h1 h2=>⟨by have:=zak h1;omega,_,_,zab h1 hb,h2⟩
 rcases hk with ⟨h1,cs,t,h2,h3⟩|rfl|rfl|rfl
 { exact put (zab h2 h.bel) h3 }
 { exact put (cs:=vhC vh0 va0) h.res (by show 15<192;decide) }
 { exact put (cs:=vhC vk mk) h.own (by show 15<192;decide) }
 {
 obtain ⟨cur,sd,h1,h2,-⟩:=h.said;exact put h1 (by omega) }
theorem run_step0 {v:Vh} {r:List Hp} (h: (doS' v x).2=0):runL v (x::r)= ((runL (doS' v x).1 r).1,0::(runL (doS' v x).1 r).2):=by show(if _ then _ else _)=_;rw [KK h]
theorem run_stepE {v:Vh} {r:List Hp} (h: (doS' v x).2≠0):runL v (x::r)= ((runL v r).1,(doS' v x).2::(runL v r).2):=by show(if _ then _ else _)=_;rw [KJ h]
theorem RInv.err {v:Vh} {vk:Vh} {mk:VA} {wq w6:World} (h:RInv w B n v l k vk mk wq) (hk:k<n) (hx:l[k]?=some x) (hb:bZ wq w6) (he: (doS' vk x).2≠0):
 RInv w B n v l (k+1) vk mk (w6.setCell ⟨B+1,k,none⟩ (iV (doS' vk x).2)):=by
 obtain ⟨cur,sd,h1,h2,h3,h4,h5⟩:=h.said;have hB:=h.hB;obtain ⟨cur',g1,g2,g3,g4⟩:=zl2 (e:=(doS' vk x).2) (zab h1 hb) h2 hk h3 h4;refine⟨?_,zeq (zab h.res hb) (by omega),zeq (zab h.own hb) (by omega),⟨cur',_,g1,g2,g3,g4, ?_⟩, ?_,hB⟩
 { exact h.bel.trans ((hb.mono h.bel.size).trans (((Chg.refl (fun b=>b=B+1) w6).set (p:=⟨B+1,k,none⟩) rfl _).bl (fun q e=>by subst e;omega) (by have:=hb.size;have:=h.bel.size;omega))) }
 { rw [h5,drop_at hx,run_stepE he];simp }
 { exact(h.veh.bl hb).chg ((Chg.refl (KR w B) w6).set (p:=⟨B+1,k,none⟩) (.inr (.inr (.inr rfl))) _) }
theorem RInv.ok {v:Vh} {vk:Vh} {mk m' :VA} {wq w6:World} (h:RInv w B n v l k vk mk wq) (hn:n<=160) (hk:k<n) (hx:l[k]?=some x) (hW:bZ wq W) (hb:bZ W w6) (he: (doS' vk x).2=0) (hv:VIn w6 (fun b=>b<W.heap.size) m' (doS' vk x).1):
 RInv w B n v l (k+1) (doS' vk x).1 m' ((w6.setRow B (vhC (doS' vk x).1 m')).setCell ⟨B+1,k,none⟩ (iV 0)):=by
 obtain ⟨cur,sd,h1,h2,h3,h4,h5⟩:=h.said;have hB:=h.hB;have hb6:=bT hW hb;have hp:=zcv w6 B (vhC (doS' vk x).1 m');have f1:=Chg.blk (zab h1 hb6) hp (by omega);have f0:=Chg.blk (zab h.res hb6) hp (by omega);have p1:=setRow_heap w6 B _ (vhC (doS' vk x).1 m') _ _ (zab h.own hb6);obtain ⟨cur',g1,g2,g3,g4⟩:=zl2 (e:=0) f1 h2 hk h3 h4;have hc:Chg (KR w B) w6 ((w6.setRow B (vhC (doS' vk x).1 m')).setCell ⟨B+1,k,none⟩ (iV 0)):=(hp.mono fun b e=>.inr (.inr (.inl e))).set (p:=⟨B+1,k,none⟩) (.inr (.inr (.inr rfl))) _;refine⟨?_,zeq f0 (by omega),zeq p1 (by omega),⟨cur',_,g1,g2,g3,g4, ?_⟩, ?_,hB⟩
 {
 have hc2:Chg (fun b=>b=B\/b=B+1) w6 ((w6.setRow B (vhC (doS' vk x).1 m')).setCell ⟨B+1,k,none⟩ (iV 0)):=(hp.mono fun b e=>.inl e).set (p:=⟨B+1,k,none⟩) (.inr rfl) _;exact h.bel.trans ((hb6.mono h.bel.size).trans (hc2.bl (fun q e=>by omega) (by have:=hb6.size;have:=h.bel.size;omega))) }
 { rw [h5,drop_at hx,run_step0 he];simp }
 {
 exact(hv.wide fun b e=>.inl (KR.sm h hn hW e).1).chg hc }
theorem bs_lt {bs:Nat} (h:BI w (some ⟨bs,0,none⟩) 2 [3,5]):bs<w.heap.size:=by
 rcases h.at_ with e| ⟨b,off,e,hc⟩
 { cases e }
 { cases e;exact zah (hc 0 (by simp)) }
section
variable {W:World} {B:Nat} {q:FQ} {s:Fo} {i:Fi} {v u:Int} {wr w4:World}
theorem FI.tgt (h:FI W B q s i v u wr) {ts' :Value} {its:List T3} (hr:w4.ownsRow W.heap.size 163 3 ts' its.length (tgs its)) (hc:Chg (fun b=>q.ts.ownBlock=some b) wr w4) (hn:Nw wr q.ts ts'):
 FI W B ⟨q.tx,q.l,q.f,q.o,ts',q.im,q.Bo⟩ s ⟨i.ss,its,i.ims⟩ v u (w4.setCell ⟨q.Bo,4,none⟩ ts'):=by
 have a:=h.apart;obtain ⟨bs,hb,h1,h2⟩:=h.box;obtain ⟨vi,hi,hiv⟩:=h.ir;have hBn:q.ts.ownBlock≠some q.Bo:=zb1 h.tr hb (by decide);have hb4:w4.heap[q.Bo]?=some (.cells (obC v u q.ts q.im bs) 47 (0,0)):=(hc.block q.Bo (zak hb) hBn).trans hb;have hc2:Chg (fun b=>q.ts.ownBlock=some b\/b=q.Bo) wr (w4.setCell ⟨q.Bo,4,none⟩ ts'):=(hc.mono fun b e=>.inl e).set (p:=⟨q.Bo,4,none⟩) (.inr rfl) _;have hK: ∀b,KI B ⟨q.tx,q.l,q.f,q.o,ts',q.im,q.Bo⟩ b->KI B q b\/wr.heap.size<=b:=fun b e=>by
  rcases e with e|e|e|e
  · exact .inl (.inl e)
  · exact .inl (.inr (.inl e))
  · exact(hn.or e).imp (fun e=>.inr (.inr (.inl e))) id
  · exact .inl (.inr (.inr (.inr e)))
 have hlb:=h.lo;have hBB:=h.o.hB;have hC1: ∀b,(q.ts.ownBlock=some b\/b=q.Bo)->KI B q b:=fun b e=>by rcases e with e|e;exact .inr (.inr (.inl e));exact .inr (.inl e)
 have hC2: ∀b,(q.ts.ownBlock=some b\/b=q.Bo)->B<=b:=fun b e=>by rcases e with e|e;(have:=h.tr.lt b e;omega);omega
 have hC3: ∀b,KO B q.tx q.l q.f q.o b->¬(q.ts.ownBlock=some b\/b=q.Bo):=fun b e c=>by rcases c with c|c;exact(a b e).2.1 c;exact(a b e).1 c
 have o1:=(h.o.wide (K' :=fun b=>KI B q b\/wr.heap.size<=b) (fun b e=>e) (fun b e=>.inl (.inl e))).keep hc2 (fun b e=>.inl (hC1 b e)) hC2 hC3;have i1:=(h.ir.wide (K' :=fun b=>KI B q b\/wr.heap.size<=b) fun b e=>e).keep hc2 (fun b e=>.inl (hC1 b e)) (fun g e c=>by
  rcases c with c|c
  · exact zbg hi h.tr (by decide) g e c
  · exact zb1 hi hb (by decide) (by rw [<-c];exact e))
 have hsz:=kc hc.size (Kg (by simp [World.setCell]:w4.heap.size= (w4.setCell ⟨q.Bo,4,none⟩ ts').heap.size));refine⟨o1.wide (fun b e=>.inl (hK b e)) (fun b e=>.inl e),⟨bs, ?_,⟨h1.at_.chg hc2 (.at_ fun e=>h2 (hC1 _ e)),h1.len,h1.max⟩,fun e=> ?_⟩, ?_,i1.wide fun b e=>.inl (hK b e),h.n1,h.n2,h.lo,h.bk⟩
 · exact zie (k:=4) (u:=ts') hb4
 · rcases hK bs e with e|e
   · exact h2 e
   · have:=bs_lt h1;omega
 · exact zbt (C:=fun b=>b=q.Bo) hr ((Chg.refl (fun b=>b=q.Bo) w4).set (p:=⟨q.Bo,4,none⟩) rfl _) (fun g e c=>zb1 hr hb4 (by decide) (by rw [<-c];exact e))
theorem FI.img (h:FI W B q s i v u wr) {im' :Value} {ims' :LL} (hr:LRow w4 W.heap.size (fun b=>KI B q b\/wr.heap.size<=b) im' ims') (hc:Chg (fun b=>q.im.ownBlock=some b) wr w4) (hn:Nw wr q.im im'):
 FI W B ⟨q.tx,q.l,q.f,q.o,q.ts,im',q.Bo⟩ s ⟨i.ss,i.ts,ims'⟩ v u (w4.setCell ⟨q.Bo,6,none⟩ im'):=by
 have a:=h.apart;obtain ⟨bs,hb,h1,h2⟩:=h.box;obtain ⟨vi,hi,hiv⟩:=h.ir;obtain ⟨vf,hf,-⟩:=h.o.fr;have hBn:q.im.ownBlock≠some q.Bo:=zb1 hi hb (by decide);have hb4:w4.heap[q.Bo]?=some (.cells (obC v u q.ts q.im bs) 47 (0,0)):=(hc.block q.Bo (zak hb) hBn).trans hb;have hc2:Chg (fun b=>q.im.ownBlock=some b\/b=q.Bo) wr (w4.setCell ⟨q.Bo,6,none⟩ im'):=(hc.mono fun b e=>.inl e).set (p:=⟨q.Bo,6,none⟩) (.inr rfl) _;have hK: ∀b,KI B ⟨q.tx,q.l,q.f,q.o,q.ts,im',q.Bo⟩ b->KI B q b\/wr.heap.size<=b:=fun b e=>by
  rcases e with e|e|e|e
  · exact .inl (.inl e)
  · exact .inl (.inr (.inl e))
  · exact .inl (.inr (.inr (.inl e)))
  · exact(hn.or e).imp (fun e=>.inr (.inr (.inr e))) id
 have hlb:=h.lo;have hBB:=h.o.hB;have hC1: ∀b,(q.im.ownBlock=some b\/b=q.Bo)->KI B q b:=fun b e=>by rcases e with e|e;exact .inr (.inr (.inr e));exact .inr (.inl e)
 have hC2: ∀b,(q.im.ownBlock=some b\/b=q.Bo)->B<=b:=fun b e=>by rcases e with e|e;(have:=hi.lt b e;omega);omega
 have hC3: ∀b,KO B q.tx q.l q.f q.o b->¬(q.im.ownBlock=some b\/b=q.Bo):=fun b e c=>by rcases c with c|c;exact(a b e).2.2 c;exact(a b e).1 c
 have o1:=(h.o.wide (K' :=fun b=>KI B q b\/wr.heap.size<=b) (fun b e=>e) (fun b e=>.inl (.inl e))).keep hc2 (fun b e=>.inl (hC1 b e)) hC2 hC3;obtain ⟨vs4,h41,-⟩:=id hr;refine⟨o1.wide (fun b e=>.inl (hK b e)) (fun b e=>.inl e),⟨bs, ?_,⟨h1.at_.chg hc2 (.at_ fun e=>h2 (hC1 _ e)),h1.len,h1.max⟩,fun e=> ?_⟩, ?_, ?_,h.n1,fun g e c=> ?_,h.lo,h.bk⟩
 · exact zie (k:=6) (u:=im') hb4
 · rcases hK bs e with e|e
   · exact h2 e
   · have:=bs_lt h1;omega
 · exact zbt h.tr hc2 (fun g e c=>by
    rcases c with c|c
    · exact zbg h.tr hi (by decide) g e c
    · exact zb1 h.tr hb (by decide) (by rw [<-c];exact e))
 · exact(hr.keep (C:=fun b=>b=q.Bo) ((Chg.refl (fun b=>b=q.Bo) w4).set (p:=⟨q.Bo,6,none⟩) rfl _) (fun b e=>.inl (.inr (.inl e))) (fun g e c=>zb1 h41 hb4 (by decide) (by rw [<-c];exact e))).wide fun b e=>.inl (hK b e)
 · rcases hn.or e with e|e
   · exact h.n2 g e c
   · have:=(hf.lt g c).2;omega
theorem FO.start {tx l f o:Value} (h:FO W B (KO B tx l f o) tx l f o s wr):
 FI W B ⟨tx,l,f,o,nV,nV,wr.heap.size+1⟩ s ⟨s.ss, [], []⟩ v u ((wr.alloc (.cells #[iV 3,iV 5] 3)).alloc (.cells (obC v u (nV) (nV) wr.heap.size) 47)):=by
 have hb:bZ wr ((wr.alloc (.cells #[iV 3,iV 5] 3)).alloc (.cells (obC v u (nV) (nV) wr.heap.size) 47)):=bA2;obtain ⟨vo,ho,-⟩:=h.or;have hlt: ∀b,KO B tx l f o b->b<wr.heap.size:=fun b e=>by
  obtain ⟨vf,hf,-⟩:=h.fr
  rcases e with e|e|e|e|e
  { exact Nat.lt_of_le_of_lt e (zak h.bk.box) }
  { exact(h.bk.row.lt b e).2 }
  { exact(h.lr.lt b e).2 }
  { exact(hf.lt b e).2 }
  { exact(ho.lt b e).2 }
 have hK: ∀b,KI B ⟨tx,l,f,o,nV,nV,wr.heap.size+1⟩ b->KO B tx l f o b\/wr.heap.size<=b:=fun b e=>by
  rcases e with e|e|e|e
  { exact .inl e }
  { have e:b=wr.heap.size+1:=e;exact .inr (by omega) }
  { cases e }
  { cases e }
 have hw:=h.bel.size;have hBB:=h.hB;have hk:FO W B (KO B tx l f o) tx l f o s ((wr.alloc (.cells #[iV 3,iV 5] 3)).alloc (.cells (obC v u (nV) (nV) wr.heap.size) 47)):=h.keep (C:=fun _=>False) (.of hb _) (fun b e=>e.elim) (fun b e=>e.elim) (fun b _ e=>e);have hx:=(h.wide (K' :=fun b=>KO B tx l f o b\/wr.heap.size<=b) (fun b e=>e) (fun b e=>.inl e)).keep (C:=fun _=>False) (.of hb _) (fun b e=>e.elim) (fun b e=>e.elim) (fun b _ e=>e);refine⟨hx.wide (fun b e=>.inl (hK b e)) (fun b e=>.inl e),⟨wr.heap.size,zau _ _ _,⟨(zd2 _ _ _ _ _ rfl rfl:zag (wr.alloc (.cells #[iV 3,iV 5] 3)) (some ⟨wr.heap.size,0,none⟩) [3,5]).alloc _,rfl,by decide⟩,fun e=> ?_⟩,KZ _ _ _ _,⟨[],KZ _ _ _ _,rfl⟩,fun e=> ?_,fun g e=>by(cases e),by show W.heap.size<=wr.heap.size+1;omega,rfl⟩
 {
 rcases e with e|e|e|e
 { have:=hlt _ e;omega }
 { have e:wr.heap.size=wr.heap.size+1:=e;omega }
 { cases e }
 { cases e } }
 { have:=(ho.lt (wr.heap.size+1) e).2;omega }
theorem FI.drop (h:FI W B q s i v u wr):FO W B (KO B q.tx q.l q.f q.o) q.tx q.l q.f q.o s wr:=h.o.wide (fun _ e=>.inl (.inl e)) (fun _ e=>e)
theorem FI.done (h:FI W B q s i v u wr) {o' :Value} (hc:Chg (fun b=>q.o.ownBlock=some b) wr w4) (hn:Nw wr q.o o')
 (ho: ∀vs bs,wr.ownsRow W.heap.size 47 7 q.o s.offs.length vs->wr.heap[q.Bo]?=some (.cells (obC v u q.ts q.im bs) 47 (0,0))->w4.ownsRow W.heap.size 47 7 o' (s.offs.length+1) (vs++(obC v u q.ts q.im bs).toList)) (hm:i.ims.length<=1000/\i.ts.length<=1000):
 FO W B (KO B q.tx q.l q.f o') q.tx q.l q.f o' ⟨s.ss,s.sg,s.fst,s.offs++ [⟨[], [],v,u,i.ts, [3,5],i.ims⟩]⟩ w4:=by
 have a:=h.apart;obtain ⟨bs,hb,h1,h2⟩:=h.box;have hd:=h.drop;obtain ⟨vo,ho1,ho2⟩:=hd.or;have hor:=ho vo bs ho1 hb;have htr:=h.tr;obtain ⟨vi,hi,hiv⟩:=h.ir;obtain ⟨a3,c3,e3⟩:=zbk htr;obtain ⟨a5,c5,e5⟩:=zbk hi;rw [e3] at htr;rw [e5] at hi;have hK: ∀b,KO B q.tx q.l q.f o' b->KO B q.tx q.l q.f q.o b\/wr.heap.size<=b:=fun b e=>by
  rcases e with e|e|e|e|e
  { exact .inl (.inl e) }
  { exact .inl (.inr (.inl e)) }
  { exact .inl (.inr (.inr (.inl e))) }
  { exact .inl (.inr (.inr (.inr (.inl e)))) }
  { exact(hn.or e).imp (fun e=>.inr (.inr (.inr (.inr e)))) id }
 have hlt:=bs_lt h1;have hbs: ¬(KO B q.tx q.l q.f q.o bs\/wr.heap.size<=bs):=fun e=>by
  rcases e with e|e
  { exact h2 (.inl e) }
  { omega }
 have hat: ∀ad,a3=some ad->¬(KO B q.tx q.l q.f q.o ad.block\/wr.heap.size<=ad.block):=fun ad e c=>by
  rcases htr.2 with ⟨x,-⟩| ⟨g,cap,cur,x,-,hg,-⟩
  { rw [e] at x;cases x }
  {
  cases x;cases e
  rcases c with c|c
  { exact(a _ c).2.1 (by rw [e3];rfl) }
  { have:=zak hg;have c:wr.heap.size<=g:=c;omega } }
 have hai: ∀ad,a5=some ad->¬(KO B q.tx q.l q.f q.o ad.block\/wr.heap.size<=ad.block):=fun ad e c=>by
  rcases hi.2 with ⟨x,-⟩| ⟨g,cap,cur,x,-,hg,-⟩
  { rw [e] at x;cases x }
  {
  cases x;cases e
  rcases c with c|c
  { exact(a _ c).2.2 (by rw [e5];rfl) }
  { have:=zak hg;have c:wr.heap.size<=g:=c;omega } }
 have hnew:OR wr (fun b=>KO B q.tx q.l q.f q.o b\/wr.heap.size<=b) ⟨[], [],v,u,i.ts, [3,5],i.ims⟩ (obC v u q.ts q.im bs).toList:=
  ⟨rfl,rfl,⟨none,0,0,none,0,0,a3,i.ts.length,c3,some ⟨bs,0,none⟩,2,2,a5,i.ims.length,c5⟩,by rw [e3,e5];rfl,rfl,rfl,⟨⟨tgs_of (zdd htr),rfl,by have:=hm.2;show i.ts.length<=maxLen;unfold maxLen;omega⟩,.inr hat⟩,⟨h1,.at_ hbs⟩,⟨vi,zdd hi,hiv.mono (LR.off fun b e=>by rcases e with e|e;exact .inl (.inl e);exact .inr e),.inr hai⟩,rfl,by have:=hm.1;show i.ims.length<=maxLen;unfold maxLen;omega⟩
 have hall:Vs (OR wr (fun b=>KO B q.tx q.l q.f q.o b\/wr.heap.size<=b)) (s.offs++ [⟨[], [],v,u,i.ts, [3,5],i.ims⟩]) (vo++(obC v u q.ts q.im bs).toList):=(ho2.mono (OR.off fun b e=>e)).app ⟨_, [],by simp,hnew,rfl⟩;refine hd.offer ⟨_, ?_,hall.mono (OR.chg (hc.mono fun b e=>.inl (.inr (.inr (.inr (.inr e))))))⟩ hc hK (fun _ e=>e)
 simpa using hor
end
theorem zed (w:World) (t e:TypeId) (F:Nat) (i:TypeInfo) (z:Value) (size bytes:Nat) (ht:P.underlying t=some (.slice e)) (hi:P.info? e=some i) (hz:i.zero=some z) (hs:i.size=size) (hb:i.bytes=bytes) (hzs:z.cells.size=size) (hs0:0<size) (hb2:bytes<=1000)
 (v:Value) (n:Nat) (vs:LV) (h:w.ownsRow F e size v n vs) (c:Array Value) (hc:c.size=size) (h1:c.all (·.oneCell')=true) (hn:n<=1000) (hF:F<=w.heap.size):
 ∃g cap w4,(Builtin.append_ #[t,t] t #[v,sV w.heap.size 1 1]).run P (w.alloc (.cells c e))=.ok (sV g (n+1) cap) w4/\w4.ownsRow F e size (sV g (n+1) cap) (n+1) (vs++c.toList)/\Chg (fun b=>v.ownBlock=some b) w w4/\Nw w v (sV g (n+1) cap):=by
 have hbl:bZ w (w.alloc (.cells c e)):=bA1;have hby: (n+1)* bytes<=140737488355328:=kc (Nat.mul_le_mul (show n+1<=1001 by omega) hb2) (by decide);obtain ⟨g,cap,w4,hr,ho,hg,hat,-⟩:=run_append_lies (P:=P) (w.alloc (.cells c e)) t t F e i z size bytes ht hi hz hs hb hzs hs0 v n vs (h.alloc _) ⟨w.heap.size,0,none⟩ 1 1 c.toList (by rw [Ki,hc,Nat.one_mul]) (World.news_of_block (kP w (.cells c e))) (fun u hu=>Array.all_eq_true_iff_forall_mem.1 h1 u (by simpa using hu)) (by omega) (by unfold maxLen;omega) hby (kc hF hbl.size) _ rfl;refine⟨g,cap,w4,hr,ho,(Chg.of hbl _).trans (Chg.grown hg fun b e=>e), ?_⟩
 rcases hat with h|h
 { exact .inl (by rw [h];rfl) }
 { exact .inr ⟨g,rfl,by rw [h];exact hbl.size⟩ }
theorem zfg {vs' :LV} (h:w.ownsRow F t k v n vs) (h' :w.ownsRow F t k v n vs'):vs=vs' :=by
 rcases h.2 with ⟨e1,e2⟩| ⟨g1,cap1,cur1,e1,-,e3,-,-,-,e4⟩
 { rw [kn (by rw [h.1,e2,Nat.zero_mul]:vs.length=0),kn (by rw [h'.1,e2,Nat.zero_mul]:vs'.length=0)] }
 {
 rcases h'.2 with ⟨f1,f2⟩| ⟨g2,cap2,cur2,f1,-,f3,-,-,-,f4⟩
 { rw [e1] at f1;cases f1 }
 { rw [e1] at f1;cases f1;rw [e3] at f3;cases f3;rw [<-e4,<-f4] } }
theorem zlo {c:Nat} (h:w.ownsRow F t k (.slice a n c) n vs):n<=c:=by
 rcases h.2 with ⟨e,-⟩| ⟨g,cap,cur,e,-,-,h1,-⟩
 { cases e;exact kQ _ }
 { cases e;exact h1 }
theorem LRow.snoc {w4:World} {v' :Value} (h:LRow w F K v ls) (hv: ∀b,v.ownBlock=some b->K b) {r:LI} (hr:zag w a r) (hm:r.length<=maxLen) (ha:Ao r (fun b=>K b\/w.heap.size<=b) a)
 (ho: ∀vs,w.ownsRow F 26 1 v ls.length vs->w4.ownsRow F 26 1 v' (ls.length+1) (vs++ [.slice a r.length r.length])) (hc:Chg (fun b=>v.ownBlock=some b) w w4):LRow w4 F (fun b=>K b\/w.heap.size<=b) v' (ls++ [r]):=by
 obtain ⟨vs,h1,h2⟩:=h;have hc2:Chg (fun b=>K b\/w.heap.size<=b) w w4:=hc.mono fun b e=>.inl (hv b e)
 refine⟨_,by simpa using ho vs h1, ?_⟩;have h3:Vs (LR w (fun b=>K b\/w.heap.size<=b)) [r] [.slice a r.length r.length]:=⟨_, [],by simp,⟨a,r.length,rfl,hr,kQ _,hm,ha⟩,rfl⟩;exact((h2.mono (LR.off (K' :=fun b=>K b\/w.heap.size<=b) fun b e=>e)).app h3).mono (LR.chg hc2)
section
variable {W:World} {B:Nat} {q:FQ} {s:Fo} {i:Fi} {v u:Int} {wr:World}
theorem FI.lt (h:FI W B q s i v u wr): ∀b,KI B q b->b<wr.heap.size:=fun b e=>by
 obtain ⟨bs,hb,-⟩:=h.box;obtain ⟨vf,hf,-⟩:=h.o.fr;obtain ⟨vo,ho,-⟩:=h.o.or;obtain ⟨vi,hi,-⟩:=h.ir
 rcases e with (e|e|e|e|e)|e|e|e
 { exact Nat.lt_of_le_of_lt e (zak h.o.bk.box) }
 { exact(h.o.bk.row.lt b e).2 }
 { exact(h.o.lr.lt b e).2 }
 { exact(hf.lt b e).2 }
 { exact(ho.lt b e).2 }
 { rw [e];exact zak hb }
 { exact(h.tr.lt b e).2 }
 { exact(hi.lt b e).2 }
theorem FI.bl (h:FI W B q s i v u wr) (hb:bZ wr w'):FI W B q s i v u w' :=by
 obtain ⟨r1,r2,r3⟩:=h.rest (C:=fun _=>False) (K' :=KI B q) (.of hb _) (fun _ e=>e.elim) (fun _ e=>.inl e);exact⟨h.o.keep (C:=fun _=>False) (.of hb _) (fun _ e=>e.elim) (fun _ e=>e.elim) (fun _ _ e=>e),r1,r2,r3,h.n1,h.n2,h.lo,h.bk⟩
theorem FI.base (h:FI W B q s i v u wr):W.heap.size<=wr.heap.size:=h.o.bel.size
end
def spI (s:Fo) (v j:Nat):Fo:=⟨(inF s.ss v j).ss,s.sg,if v=0 then(inF s.ss v j).ims else s.fst,s.offs⟩
theorem zid (ss:LB) (v:Nat): ∀j,(inF ss v j).ts.length=j/\(inF ss v j).ims.length=j
 |0=>⟨rfl,rfl⟩
 |j+1=>by
  obtain ⟨h1,h2⟩:=zid ss v j
  show((inF ss v j).ts++ [_]).length=_/\((inF ss v j).ims++ [_]).length=_
  simp [h1,h2]
theorem adF_len (ss:LB) (s:ByteArray): (adF ss s).length<=ss.length+1:=by
 unfold adF
 split<;>simp
theorem zjz (ss:LB) (v:Nat): ∀j,(inF ss v j).ss.length<=ss.length+j
 |0=>kQ _
 |j+1=>by
  have:=zjz ss v j;have:=adF_len (inF ss v j).ss (bs (imgT (imgF v j)))
  show(adF (inF ss v j).ss (bs (imgT (imgF v j)))).length<=_
  omega
theorem zjf (units:Nat) (u:Int): ∀v,(outF units u v).ss.length<=v *(units+1)/\(outF units u v).sg.length<=2 * v/\(outF units u v).offs.length<=v/\(outF units u v).fst.length<=units
 |0=>⟨KG _,KG _,KG _,KG _⟩
 |v+1=>by
  obtain ⟨h1,h2,h3,h4⟩:=zjf units u v;have h5:=zjz (outF units u v).ss v units;have h6:=(zid (outF units u v).ss v units).2
  show(outP u v (outF units u v) (inF (outF units u v).ss v units)).ss.length<=_/\(outP u v (outF units u v) (inF (outF units u v).ss v units)).sg.length<=_/\(outP u v (outF units u v) (inF (outF units u v).ss v units)).offs.length<=_/\(outP u v (outF units u v) (inF (outF units u v).ss v units)).fst.length<=_
  have e: (v+1)*(units+1)=v *(units+1)+units+1:=by rw [Nat.add_mul];omega
  unfold outP
  split
  { exact⟨by show(inF _ v units).ss.length<=_;omega,by show(outF units u v).sg.length<=_;omega,by show(outF units u v).offs.length<=_;omega,by show(inF _ v units).ims.length<=_;omega⟩ }
  {
  have h7:=adF_len (inF (outF units u v).ss v units).ss (bs (relT v u (inF (outF units u v).ss v units).ts));refine⟨by show(adF _ _).length<=_;omega, ?_,by unfold outQ;simp;omega,by show(outF units u v).fst.length<=_;omega⟩;unfold outQ;dsimp only
  split<;>simp<;>omega }
theorem imgF_ok (v k:Nat) (hv:v<4) (hk:k<4):imgE (imgF v k)=0:=by
 have: ∀v,v<4->∀k,k<4->imgE (imgF v k)=0:=by decide+kernel
 exact this v hv k hk
theorem imgF_len (v k:Nat): (imgF v k).length=3+9 * k+v:=by unfold imgF;simp
theorem infoLs: (Tryz.prog.info? 26).map (fun i=>(i.zero,i.size,i.bytes))=some (some (nV),1,24):=by kernel_rfl
theorem infoOf: (Tryz.prog.info? 47).map (fun i=>(i.zero,i.size,i.bytes))=some (some (.agg (ofC 0 0 oa9)),7,136):=by kernel_rfl
section
def bdP (t:TypeId) (ps:Array (Nat×Value)):Sem Value:=Instr.build t ps
theorem exV_bp (ρ:Operand->Value) (dst:Option Tmp) (x0 x1 x2 x3:Operand) (ty:TypeId) (pos:String) (after:Array Edge) (guard:Option (Nat×Bool)):
 execOp ρ { dst,op:=.build 40 #[(0,x0),(1,x1),(2,x2),(3,x3)],type:=ty,pos,after,guard }= (do pure (.value (<-bdP 40 #[(0,ρ x0),(1,ρ x1),(2,ρ x2),(3,ρ x3)]))):=by
 simp only [execOp,bdP,List.map_toArray,List.map_cons,List.map_nil]
attribute [local go_sem ↓] exV_bp kM kO zhy zhp zhu zxe exG_st exG_al
attribute [local go_sem] zgl zgn zgi rdF_V wrF_V rdG_run wrG_run alG_run rdF_G wrF_G zgj World.setRow_alloc_new
def nwV (ss:LB) (sg:List S2) (r:Rt) (ims:LL):Vh:=⟨ss,sg,(gNew r ims.length).1,ims.map (unF ss), [], [],0⟩
theorem zj0 {ss:LB} (h:bookE ss=0):ss.length<=60:=by
 unfold bookE at h
 split at h
 { cases h }
 { omega }
theorem sigE_few {l:List S2} (h:sigE l=0):l.length<=360:=by
 unfold sigE at h
 split at h
 { cases h }
 { omega }
def NwAns (w:World) (r:Vh×Int) (e:Ending) (w' :World):Prop:=(∃m,e=.returned (.tuple #[vhv r.1 m,iV r.2])/\VIn w' (fun b=>b<w.heap.size/\Sm w b) m r.1)/\bZ w w'
theorem vNew_any (ab:oA) (nb cb:Nat) (ss:LB) (sa:oA) (ns cs:Nat) (sg:List S2) (r:Rt) (ak:oA) (nk ck:Nat) (ai:oA) (ni ci:Nat) (ims:LL) (w:World)
 (hb:BB w ab nb cb ss) (hs:BG w sa ns sg) (hr:BI w ak nk r.ks) (hi:BL w ai ni ims) (hT:Tab w) (e1:bookE ss=0) (e2:sigE sg=0) (e3: (gNew r ims.length).2=0) (hok: ∀im∈ims,UnOk ss im) (hn:ni<=1000):
 Cq 12 #[bookv ab nb cb,.slice sa ns cs,.agg #[iV r.v,.slice ak nk ck,iV r.t],.slice ai ni ci] w (NwAns w (nwV ss sg r ims,0)):=by
 have hw:bZ w (((w.alloc (.cells #[.slice ab nb cb] 24)).alloc (.cells #[iV r.v,.slice ak nk ck,iV r.t] 30)).alloc (.cells (vhC vh0 va0) 40)):=(bA2).alloc (by simp;omega) _;have b0:=uH (zai (zai (kP w (.cells #[.slice ab nb cb] 24)) (.cells #[iV r.v,.slice ak nk ck,iV r.t] 30)) (.cells (vhC vh0 va0) 40));have b1:=uH (zai (zau w (.cells #[.slice ab nb cb] 24) (.cells #[iV r.v,.slice ak nk ck,iV r.t] 30)) (.cells (vhC vh0 va0) 40));have b2:=uH (zb9 w (.cells #[.slice ab nb cb] 24) (.cells #[iV r.v,.slice ak nk ck,iV r.t] 30) (.cells (vhC vh0 va0) 40));have HB:=uH hb;have HS:=uH hs;have HI:=uH hi;have HR:=uH hr;have HT:=uH hT;have HO:=uH hok;have HM:=uH hn;have HN:Hd (ims.length=ni):=hi.len;have E3:=uH e3;have d1: (bookE ss !=0)=false:=by simpa using e1
 have d2: (sigE sg !=0)=false:=by simpa using e2
 have H60:=uH e1;have H36:=uH e2;clear hb hs hr hi hT hok hn e1 e2 e3;unfold bookv;have y0:=zaa b0.o 0 _ rfl;go_enter Tryz.func12,Tryz.ntmps12;go_wp2_with fail;generalize ((w.alloc (.cells #[.slice ab nb cb] 24)).alloc (.cells #[iV r.v,.slice ak nk ck,iV r.t] 30)).alloc (.cells (vhC vh0 va0) 40)=W at *;have hB1:=HB.o.bl hw;have HC:=uH (zdw ab nb cb ss W hB1.at_ hB1.len hB1.cap hB1.short);unfold bookv at HC;refine(zae HC).mono ?_;rintro e w1 ⟨rfl,hb1⟩;clear HC hB1;have hw1:=bT hw hb1;have HC:=uH (zd3 sa ns cs sg w1 (HS.o.bl hw1));clear y0;go_wp2_with fail;refine(zae HC).mono ?_;rintro e w2 ⟨rfl,hb2⟩;clear HC;have hb12:=bT hb1 hb2;have hw2:=bT hw hb12;obtain ⟨z0,z1,z2⟩:ce w2 (w.heap.size+1) 0=some (iV r.v)/\ce w2 (w.heap.size+1) 1=some (.slice ak nk ck)/\ce w2 (w.heap.size+1) 2=some (iV r.t):=⟨zaa (zab b1.o hb12) 0 _ rfl,zaa (zab b1.o hb12) 1 _ rfl,zaa (zab b1.o hb12) 2 _ rfl⟩;have HC:=uH (zpt r ak nk ck ni w2 (HR.o.bl hw2));clear b1 d1;go_wp2_with fail;refine(zae HC).mono ?_;rintro e w3 ⟨⟨k3,rfl,hg3,hf3⟩,hb3⟩;rw [zud];clear HC d2 z0 z1 z2;have hgn:Hd ((nwV ss sg r ims)= ⟨ss,sg,(gNew r ni).1,ims.map (unF ss), [], [],0⟩):=by show _=_;unfold nwV;rw [HN.o]
 have d3: ((gNew r ni).2 !=0)=false:=by have:=E3.o;rw [HN.o] at this;simpa using this
 clear E3;generalize gNew r ni=q at *;obtain ⟨gt,e3⟩:=q;dsimp only at hg3 hgn d3|-;have hb4:bZ w3 (w3.alloc (.cells (gaC gt k3) 35)):=bA1;have bg:=uH (kP w3 (.cells (gaC gt k3) 35));have hb34:=bT hb3 hb4;have hb24:=bT hb12 hb34;have hw4:=bT hw hb24;have HG:=uH (hg3.bl hb4);have HC:=uH (zi0 ab nb cb ss ai ni ci ims _ (HB.o.bl hw4) (HI.o.bl hw4) (HT.o.bl hw4) HO.o HM.o);have y0:=zaa (zab b0.o hb24) 0 _ rfl;unfold bookv at HC;have hs2:w.heap.size+1+1+1<=w2.heap.size:=by have:=zak b2.o;have:=hb12.size;omega
 have HF:Hd (GFr (w.heap.size+1+1+1) k3):=⟨zal.mono hf3.a hs2,zal.mono hf3.ak hs2,zal.mono hf3.av hs2,zal.mono hf3.ad hs2⟩;clear hs2;have hsz3:w.heap.size+1+1<w3.heap.size:=by have:=zak b2.o;have:=hb12.size;have:=hb3.size;omega
 have HKK:Hd (∀b,((b<w.heap.size/\Sm w b)\/b=w.heap.size+1+1)->b< (w3.alloc (.cells (gaC gt k3) 35)).heap.size/\Sm (w3.alloc (.cells (gaC gt k3) 35)) b):=fun b e=>by
  rcases e with ⟨e1,cs1,t1,e2,e3⟩|e
  { exact⟨kw e1 hw4.size,cs1,t1,zab e2 hw4,e3⟩ }
  {
  rw [e];exact⟨zak (zab b2.o hb24),_,_,zab b2.o hb24,by show 15<192;decide⟩ }
 clear hg3 hf3 hb3 hb34 hb4;go_wp2_with fail;generalize (w3.alloc (.cells (gaC gt k3) 35))=W4 at *;refine(zae HC).mono ?_;rintro e w5 ⟨⟨au,nu,cu,rfl,hu5⟩,hb5⟩;clear HC y0;have hb25:=bT hb24 hb5;have hw5:=bT hw hb25;have HU:=uH hu5;replace HG:=uH (HG.o.bl hb5);replace bg:=uH (zab bg.o hb5);replace b0:=uH (zab b0.o hb25);replace b2:=uH (zab b2.o hb25);have HTB:=uH (fun W (hW:bZ w5 W)=>zhj ss ab nb cb W (HB.o.bl (bT hw5 hW)) (by have:=zj0 H60.o;have:=HB.o.len;omega));have HCS:=uH (fun W (hW:bZ w5 W)=>zip sa ns cs (sgs sg) W (sgs_row (HS.o.bl (bT hw5 hW)).at_) (by rw [sgs_len,HS.o.len]) (zlr _) (by have:=sigE_few H36.o;have:=HS.o.len;omega));unfold bookv at HTB;have HLS:Hd (sg.length=ns/\ns<=maxLen):=⟨HS.o.len,HS.o.max⟩;have hs45:w3.heap.size<w5.heap.size:=zak bg.o;clear hu5 hb5 hb24 hb25 hb12 hb1 hb2 hw1 hw2 hw4 hw HB HS HI HR HT HO HM HN H60 H36;go_upto_region 13 with fail
 have hd0:bZ w5 w5.drew:=(kS _ _).drew;have HSS:Hd (∀W',bZ w5 W' ->ce W' w.heap.size 0=some (.slice ab nb cb)/\bk W' w3.heap.size=some (.cells (gaC gt k3) 35 (0,0))):=fun W' hW=>⟨zaa (zab b0.o hW) 0 _ rfl,zab bg.o hW⟩
 refine km (S:=fun W' =>ce W' w.heap.size 0=some (.slice ab nb cb)/\bk W' w3.heap.size=some (.cells (gaC gt k3) 35 (0,0))) (by kernel_rfl) (HSS.o _ hd0) ?_;intro hHeld;refine Htk 0 ?_
 refine Htk 2 ?_
 refine Htk 4 ?_
 refine Htk 5 ?_
 refine wr1 1 (fun K hK=> ?_);go_simp;refine(zae HTB _ hd0).mono ?_;rintro e w6 ⟨⟨g1,hg1,hg2,rfl,hbb⟩,hb6⟩;have hd6:bZ w5 w6:=hd0.trans hb6;refine hK.out _ _ (HSS.o _ hd6) (fun hHeld=> ?_);clear hK K
 refine wr1 3 (fun K hK=> ?_);go_simp;refine(zae HCS _ hd6).mono ?_;rintro e w7 ⟨rfl,rfl⟩;have hb7:bZ w6 (w6.alloc (.cells (sgs sg).toArray 111)):=bA1;have hd7:=bT hd6 hb7;have HBB:=uH (hbb.bl hb7);have bs7:=uH (kP w6 (.cells (sgs sg).toArray 111));have hsz6:=hd6.size;clear hb6 hb7 hbb HTB HCS;refine hK.out _ _ (HSS.o _ hd7) (fun hHeld=> ?_);clear hK K
 try simp only [sq]
 have hbd:=fun W=>run_build (P:=Tryz.prog) W 40 #[(0,.agg #[sV g1 nb nb]),(1,sV w6.heap.size ns ns),(2,.agg (gaC gt k3)),(3,.slice au nu cu)] (vhC ⟨ss,sg,gt,ims.map (unF ss), [], [],0⟩ ⟨some ⟨g1,0,none⟩,nb,nb,some ⟨w6.heap.size,0,none⟩,ns,ns,k3,au,nu,cu,none,0,0,none,0,0⟩) (by kernel_rfl)
 change∀W,(bdP _ _).run _ _=_ at hbd
 refine Htk 6 ?_
 try simp only [sq]
 have h8:=bk_v (zab b2.o hd7);refine wr1 7 (fun K hK=> ?_);go_simp;have hn3:w3.heap.size≠w.heap.size+1+1:=by omega
 have hch:=zcv (w6.alloc (.cells (sgs sg).toArray 111)) (w.heap.size+1+1) (vhC ⟨ss,sg,gt,ims.map (unF ss), [], [],0⟩ ⟨some ⟨g1,0,none⟩,nb,nb,some ⟨w6.heap.size,0,none⟩,ns,ns,k3,au,nu,cu,none,0,0,none,0,0⟩);have HZ:=uH (setRow_heap (w6.alloc (.cells (sgs sg).toArray 111)) (w.heap.size+1+1) _ (vhC ⟨ss,sg,gt,ims.map (unF ss), [], [],0⟩ ⟨some ⟨g1,0,none⟩,nb,nb,some ⟨w6.heap.size,0,none⟩,ns,ns,k3,au,nu,cu,none,0,0,none,0,0⟩) _ _ (zab b2.o hd7));refine hK.out _ _ (⟨hch.cell hHeld.1 (by show¬w.heap.size=_;omega),hch.blk hHeld.2 hn3⟩) (fun hHeld=> ?_);clear hK K
 refine Htk 8 ?_
 try simp only [sq]
 refine KE (by kernel_rfl) ?_ _;have HFin:NwAns w (nwV ss sg r ims,0) (.returned (.tuple #[vhv ⟨ss,sg,gt,ims.map (unF ss), [], [],0⟩ ⟨some ⟨g1,0,none⟩,nb,nb,some ⟨w6.heap.size,0,none⟩,ns,ns,k3,au,nu,cu,none,0,0,none,0,0⟩,iV 0])) ((w6.alloc (.cells (sgs sg).toArray 111)).setRow (w.heap.size+1+1) (vhC ⟨ss,sg,gt,ims.map (unF ss), [], [],0⟩ ⟨some ⟨g1,0,none⟩,nb,nb,some ⟨w6.heap.size,0,none⟩,ns,ns,k3,au,nu,cu,none,0,0,none,0,0⟩)):=by
  rw [hgn.o];have hs5:w5.heap.size<=g1:=hg1;have hK: ∀b,((b<w.heap.size/\Sm w b)\/b=w.heap.size+1+1)->b<w.heap.size+1+1+1:=fun b e=>by rcases e with e|e<;>omega
  have hv:VIn (w6.alloc (.cells (sgs sg).toArray 111)) (fun b=>(b<w.heap.size/\Sm w b)\/b=w.heap.size+1+1) ⟨some ⟨g1,0,none⟩,nb,nb,some ⟨w6.heap.size,0,none⟩,ns,ns,k3,au,nu,cu,none,0,0,none,0,0⟩ ⟨ss,sg,gt,ims.map (unF ss), [], [],0⟩:=by
   refine⟨HBB.o,⟨sgs_of (.inr ⟨w6.heap.size,0,rfl,fun j u hu=>by rw [Kl];exact zaa bs7.o j u (by simpa using hu)⟩),HLS.o.1,HLS.o.2⟩,HG.o.bl hd7,((HU.o.wide UR.off (K' :=fun b=>(b<w.heap.size/\Sm w b)\/b=w.heap.size+1+1) fun b e=>.inl (HKK.o b e)).chg UR.chg (.of hd7 _)),⟨⟨[],.inl rfl,rfl,.inl rfl⟩,rfl,kQ _,KG _⟩,⟨⟨[],.inl rfl,rfl,.inl rfl⟩,rfl,kQ _,KG _⟩,.at_ (fun e=> ?_),.at_ (fun e=> ?_),.fresh HF.o hK⟩
   { have:=hK _ e;omega }
   { have:=hK _ e;omega }
  have hx:=bT hw5 hd7;exact⟨⟨_,rfl,(hv.chg (hch.mono fun b e=>.inr e)).wide fun b e=>.inl (.inl e)⟩,hx.trans (hch.bl (fun b e=>by rw [e];omega) hx.size)⟩
 clear hbd h8 hHeld hch HSS;go_wp2_with fail;refine kT (resV2 rfl rfl rfl HZ.o) rfl ?_;exact HFin
end
end Go.Proofs.YthmekfcgdfckaaaGreatDoor
