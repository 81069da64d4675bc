import Derived.Test.YtnjmhjdhfaboaaaGreatDoorScAddGroup
import Derived.Laws.EntriesVeiled
set_option maxRecDepth 1000000
set_option maxHeartbeats 4000000
open Nat (le_refl le_trans zero_add zero_le)
open List
open Go.Proofs.Tryz
namespace Go.Proofs.YtnjmhjdhfaboaaaGreatDoor
open Go.RowKit Go.Maps aV aD aR bK dH aU gB
theorem Ņ{p:Prop}(h:p):Go.RowKit.Hid p:=h
def SN:Nat->Nat
 | 0=>22
 | 1=>23
 | 2=>24
 | 3=>25
 | 4=>26
 | 5=>27
 | 6=>28
 | 7=>29
 | _=>30
theorem nine{c:Nat}(h:c<9):c=0\/c=1\/c=2\/c=3\/c=4\/c=5\/c=6\/c=7\/c=8:=fO
theorem agi{c:Nat}(h:c<9):adt c = .agg #[.bool (GN c),.int .i64 (M4 c:Int),.bool (ads c),.func (.func (SN c)) #[] #[]]:=by
 rcases nine h with rfl|rfl|rfl|rfl|rfl|rfl|rfl|rfl|rfl;all_goals rfl
theorem abb{c:Nat}(h:c<9):∀args w,(callFunc (SN c) args).run prog w = .ok (.enter (SN c) args) w:=by
 rcases nine h with rfl|rfl|rfl|rfl|rfl|rfl|rfl|rfl|rfl
 ·exact enters_of func22 lG rfl
 ·exact enters_of func23 lG rfl
 ·exact enters_of func24 lG rfl
 ·exact enters_of func25 lG rfl
 ·exact enters_of func26 lG rfl
 ·exact enters_of func27 lG rfl
 ·exact enters_of func28 lG rfl
 ·exact enters_of func29 lG rfl
 ·exact enters_of func30 lG rfl
theorem agj{B:Nat}{ea:Nat->Addr}{T:Nat->List UInt8}(w q:World)(E:oH B ea T w)(H:B<=w.heap.size)(F D G:Nat)(s:PS)(K:List Nat)(k:List UInt8)(ns:List Int)(z A:Value)(h:rM w q F D G s K ns A)(j:Nat)(I:iL s j)(Q:j<=200){c:Nat}(R:c<9)(J:M4 c<=ns.length)(O:∀v,v∈ns->0<=v/\v<=9223372036854775807)(U:ns.length<=1000)(o:GN c=true->bH k=0/\q.ownsRow w.heap.size 54 2 z (fT k).length (eO (fT k))):
  Calls prog (SN c) #[.pointer (some ⟨F,0,none⟩),.agg #[encStr k,z,A]] q λe w'=>kM ea T w q D s c k ns K e w':=by
 rcases nine R with rfl|rfl|rfl|rfl|rfl|rfl|rfl|rfl|rfl
 ·exact aa1 w q E H F D G s K k ns z A h j I fO J O (le_trans (yB k (o rfl).1).2 nQ)
 ·exact Uj w q E H F D G s K k ns z A h j I fO J O
 ·exact Pq w q E H F D G s K k ns z A h j I
 ·exact aa3 w q E H F D G s K k ns z A h j I J O
 ·exact X7 w q E H F D G s K k ns z A h j I fO
 ·exact aa9 w q E H F D G s K k ns z A h j I Q J (o rfl).1 (o rfl).2
 ·exact aa8 w q E H F D G s K k ns z A h j I Q J (o rfl).1 (o rfl).2
 ·exact SK w q E H F D G s K k ns z A h j I
 ·exact SL w q E H F D G s K k ns z A h O U
structure BS(w wr:World)(yb pb mb:Nat)(s:PS)(K:List Nat):Prop where
 pl:uf w wr pb s K
 blk:wr.heap[yb]? = some (.cells #[.pointer (some ⟨pb,0,none⟩),.map (some mb)] 49 (0,0))
 map:MapAt wr mb 9 Sw
 yo:yb∉K
 mo:mb∉K
theorem BS.below{w wr z:World}{D A q:Nat}{s:PS}{K:List Nat}(h:BS w wr D A q s K)(o:Below wr.heap.size wr z):BS w z D A q s K:=⟨h.pl.below o,(o.block _ (aC h.blk)).trans h.blk,h.map.same (o.block _ h.map.lt),h.yo,h.mo⟩
theorem BS.go{w wr w':World}{G D F:Nat}{s s':PS}{K:List Nat}(h:BS w wr G D F s K)(I:iN w wr w' D s' K):∃o,BS w w' G D F s' o/\Kept K wr w'/\From K o wr:=by
 obtain⟨o,H,q,z⟩:=I;refine⟨o,⟨H,(q.block _ (aC h.blk) h.yo).trans h.blk,h.map.same (q.block _ h.map.lt h.mo),λA=>?_,λA=>?_⟩,q,z⟩
 ·rcases z _ A with e|e
  ·exact h.yo e
  ·have:=aC h.blk;omega
 ·rcases z _ A with e|e
  ·exact h.mo e
  ·have:=h.map.lt;omega
def Vw(ea:Nat->Addr)(T:Nat->List UInt8)(w wa:World)(pb:Nat)(s:PS)(l:List UInt8)(K:List Nat)(e:Ending)(w':World):Prop:=
 ∃x v C A a s',e = .returned (.tuple #[.string x,v])/\aL ea w' v C A/\ji T s l a s'/\(C=0->x=txt a)/\(C≠0->a=J6 T C)/\iN w wa w' pb s' K
theorem Vw.text{ea:Nat->Addr}{T:Nat->List UInt8}{w o z:World}{q:Nat}{s:PS}{l:List UInt8}{K:List Nat}(h:uf w o q s K)(D:Below o.heap.size o z)(A:ji T s l (T 0) s):Vw ea T w o q s l K (.returned (.tuple #[.string ⟨#[]⟩,.iface 397 (.pointer (some (ea 0)))])) z:=
 ⟨_,_,1,-1,T 0,s,rfl,.es 0 nQ nQ,A,λh=>absurd h nQ,λ_=>rfl,.self h D⟩
theorem adE{B:Nat}{ea:Nat->Addr}{T:Nat->List UInt8}(w wa:World)(E:oH B ea T w)(hB:B<=w.heap.size)(yb pb mb:Nat)(s:PS)(K:List Nat)(h:BS w wa yb pb mb s K)(j:Nat)(hp:iL s j)(hj:j<=200)(l:ByteArray)(hl:l.size<=900):
  Calls prog 31 #[.pointer (some ⟨yb,0,none⟩),.string l] wa λe w'=>Vw ea T w wa pb s l.data.toList K e w':=by
 obtain⟨mx,hmx⟩:=(E.below h.pl.aI hB).mx;have Bq:=Ņ (Sz wa mx hmx l fO);have ċ:l.data.toList.length=l.size:=Array.length_toList;obtain⟨hpn,hpe⟩:=M7 32 l.data.toList [];have N9:=Ņ (And.intro hpn (And.intro hpe ċ));have Q:=Ņ (And.intro h hp);have HE:=Ņ E;clear h hp E hmx hpn hpe ċ;go_enter func31,ntmps31;go_wp2_with fail;refine Calls.mono Bq.out ?_;rintro e w1 ⟨U,tl,ta,tc,D,rfl,ϖ,htc,ώ⟩;have h1:=Q.out.1.below ώ;have y1:=ak h1.blk 1;simp at y1;obtain⟨u,hu⟩:∃u:ByteArray,encStr U = .string u:=⟨_,rfl⟩;have yZ:u.data.toList=U/\u.size<=1000:=by
  have e1:u=txt U:=by injection hu.symm
  have e2:=N9.out.2.1 U (by rw[D];exact mem_cons_self ..);have e3:=N9.out.2.2;simp only[length_nil] at e2;refine⟨by rw[e1];simp[txt],?_⟩;rw[e1,dB];omega
 have Ù:=h1.map.look u fO;rw[yZ.1] at Ù;rw[aaZ U] at Ù;have Ya:=(HE.out.below (Q.out.1.pl.aI.trans (ώ.mono Q.out.1.pl.aI.size)) hB).z.x.k.sI.c0;rw[hu];rcases Ù with⟨Â,v,ϩ,rfl⟩|⟨v,ν,ϩ⟩
 ·have I:qO U=none:=by
   cases o:qO U with
   | none=>rfl
   | some c=>rw[o] at Â;cases Â
  have Iq:Hid (ji T s l.data.toList (T 0) s):=by
   show ji T s l.data.toList (T 0) s;unfold ji;rw[D];dsimp only [headD_cons];rw[I];exact⟨rfl,rfl⟩
  obtain⟨W,hW⟩:=bE (w1.alloc (.cells #[.bool false,.int .i64 0,.bool false,.nilFunc] 68));have Ϗ:Below w1.heap.size w1 W:=by rw[hW];exact (Below.refl _ _).alloc (le_refl _) _
  have sK:Hid (∀q,Vw ea T w wa pb s l.data.toList K (.returned (.tuple #[.string ⟨#[]⟩,.iface 397 (.pointer (some (ea 0)))])) (W.drewN q)):=λq=>.text Q.out.1.pl (below_draws (ώ.trans (Ϗ.mono ώ.size)) q) Iq.out
  have hEW:=(Ϗ.cell (World.block_lt_of_cell? w1 ⟨1,0,none⟩ Ya)).trans Ya;have HW:Hid (∀G,G=w1.alloc (.cells #[.bool false,.int .i64 0,.bool false,.nilFunc] 68)->G=W):=λG F=>F.trans hW.symm
  clear ώ h1 yZ Â I ϖ htc D Ya hW Ϗ Bq hu;dsimp only
  go_upto_region 4 with fail;rw[HW.out _ rfl];clear HW ϩ y1;go_quiet (fail);go_wp2;go_ret2;exact sK.out _
 ·obtain⟨c,o⟩:∃c,qO U=some c:=by
   cases o:qO U with
   | none=>rw[o] at ν;cases ν
   | some c=>exact⟨c,rfl⟩
  have LZ:=J7 o;rw[o] at ν;have hv:adt c=v:=by injection ν
  rw[agi LZ] at hv;subst hv;obtain⟨L,hL⟩:=bE (GN c);obtain⟨N,hN⟩:=bE (M4 c);obtain⟨M,hM⟩:=bE (ads c);obtain⟨fn,ľ⟩:=bE (SN c);have hen:=abb LZ;rw[<-ľ] at hen;rw[<-hL,<-hN,<-hM,<-ľ] at ϩ;have HCC:=Ņ (And.intro hL (And.intro hN (And.intro hM (And.intro ľ (And.intro LZ (And.intro o D))))));obtain⟨W,hW⟩:=bE (w1.alloc (.cells #[.bool L,.int .i64 (N:Int),.bool M,.func (.func fn) #[] #[]] 68));have Ϗ:Below w1.heap.size w1 W:=by rw[hW];exact (Below.refl _ _).alloc (le_refl _) _
  have H:W.heap[w1.heap.size]? = some (.cells #[.bool L,.int .i64 (N:Int),.bool M,.func (.func fn) #[] #[]] 68 (0,0)):=by rw[hW];exact heap_alloc_new _ _
  have adF:=ώ.trans (Ϗ.mono ώ.size);have O:=Q.out.1.pl.aI.trans (adF.mono Q.out.1.pl.aI.size);have ű:∀x,x∈tl->x.length<=900:=λx F=>by
   have e2:=N9.out.2.1 x (by rw[D];exact mem_cons_of_mem _ F);have e3:=N9.out.2.2;simp only[length_nil] at e2;omega
  have J:tl.length<=900:=by
   have e1:=N9.out.1;have e3:=N9.out.2.2;rw[D,length_cons] at e1;omega
  have kN:=Ņ (X6 W (HE.out.below O hB) (le_trans hB O.size) L N M fn ta tc tl (ϖ.below Ϗ) htc (λx F=>by have:=ű x F;omega) fO);obtain⟨cb,hcb⟩:=bE w1.heap.size;rw[<-hcb] at H;have vD:=Ņ (And.intro H (And.intro adF (And.intro O J)));have z0:=ak H 0;have z1:=ak H 1;have z2:=ak H 2;have z3:=ak H 3;simp at z0 z1 z2 z3;have HW:Hid (∀G,G=w1.alloc (.cells #[.bool L,.int .i64 (N:Int),.bool M,.func (.func fn) #[] #[]] 68)->G=W):=λG F=>F.trans hW.symm
  clear ώ h1 yZ ν ϖ htc D Ya hW Ϗ adF O ű J Bq hu o LZ hL hN hM ľ H;dsimp only
  go_upto_region 3 with fail;rw[HW.out _ rfl,<-hcb];clear HW hcb ϩ y1;go_wp2_with fail;refine Calls.mono kN.out ?_;rintro e R ⟨Ć,Ϛ⟩;obtain⟨H,yU,O,J⟩:=vD.out;obtain⟨hL,hN,hM,ľ,LZ,o,D⟩:=HCC.out;have AL:=yU.trans (Ϛ.mono yU.size);have Bc:=O.trans (Ϛ.mono O.size);have Iq:Hid (∀a s',(match LY c tl with|none=>a=T 0/\s'=s|some (k,ns)=>tF T s c k ns a s')->ji T s l.data.toList a s'):=λa s' h=>by
   unfold ji;rw[D];dsimp only [headD_cons,tail_cons];rw[o];exact h
  have Z:LX L N M tl=LY c tl:=by rw[hL,hN,hM];rfl
  rcases Ć with⟨Â,rfl⟩|⟨k,ns,lv,nv,ν,rfl,hnu,hla⟩
  ·rw[Z] at Â;obtain⟨Y,hY⟩:=bE (R.alloc (.cells #[.string ⟨#[]⟩,.slice none 0 0,.slice none 0 0] 88));have vG:Below R.heap.size R Y:=by rw[hY];exact (Below.refl _ _).alloc (le_refl _) _
   have sK:Hid (∀q,Vw ea T w wa pb s l.data.toList K (.returned (.tuple #[.string ⟨#[]⟩,.iface 397 (.pointer (some (ea 0)))])) (Y.drewN q)):=λq=>.text Q.out.1.pl (below_draws (AL.trans (vG.mono AL.size)) q) (Iq.out _ _ (by rw[Â];exact⟨rfl,rfl⟩))
   have hEY:=(HE.out.below (Bc.trans (vG.mono Bc.size)) hB).z.x.k.sI.c0;have GR:Hid (∀G,G=R.alloc (.cells #[.string ⟨#[]⟩,.slice none 0 0,.slice none 0 0] 88)->G=Y):=λG F=>F.trans hY.symm
   clear Ϛ H yU O J hL hN hM ľ LZ o D AL Bc Z Â hY vG kN vD z0 z1 z2 z3;dsimp only
   go_upto_region 7 with fail;rw[GR.out _ rfl];clear GR;go_quiet (fail);go_wp2;go_ret2;exact sK.out _
  ·rw[Z] at ν;obtain⟨Ú,á,Ŗ,ô,_⟩:=aaU ν;obtain⟨na,nn,nc,rfl⟩:=mg hnu;obtain⟨l1,l2,l3,rfl⟩:∃l1 l2 l3,lv = .slice l1 l2 l3:=by
    rcases hla with⟨_,_,h⟩|⟨_,h⟩
    ·exact mg h
    ·exact⟨_,_,_,h⟩
   obtain⟨kb,ζ⟩:∃kb:ByteArray,encStr k = .string kb:=⟨_,rfl⟩;obtain⟨Y,hY⟩:=bE (R.alloc (.cells #[.string kb,.slice l1 l2 l3,.slice na nn nc] 88));have vG:Below R.heap.size R Y:=by rw[hY];exact (Below.refl _ _).alloc (le_refl _) _
   have xY:Y.heap[R.heap.size]? = some (.cells #[.string kb,.slice l1 l2 l3,.slice na nn nc] 88 (0,0)):=by rw[hY];exact heap_alloc_new _ _
   have adG:=AL.trans (vG.mono AL.size);have V:=Q.out.1.below adG;have ϻ:rM w Y yb pb mb s K ns (.slice na nn nc):=⟨V.pl,V.blk,V.yo,aX (gD hnu O.size) vG,λx F hm=>by
    have e1:=(aH hnu F).1;have e2:=(Q.out.1.pl.mem hm).2;have e3:=yU.size;omega⟩
   have HCM:=(show Hid _ from agj w Y HE.out hB yb pb mb s K k ns (.slice l1 l2 l3) (.slice na nn nc) ϻ j Q.out.2 hj LZ Ú á fO (λh=>by
    rcases hla with⟨_,h2,h3⟩|⟨h1,_⟩
    ·exact⟨h2,aX (gD h3 O.size) vG⟩
    ·rw[hL,h] at h1;cases h1))
   rw[ζ,<-ľ] at HCM;have sK:Hid (∀e z,kM ea T w Y pb s c k ns K e z->∃x v,e = .returned (.tuple #[.string x,v])/\Vw ea T w wa pb s l.data.toList K e z):=λe z Ľ=>by
    obtain⟨x,v,C,A,y,s',rfl,hf,hr,F,ho⟩:=Ľ;refine⟨x,v,rfl,x,v,C,A,lC T C y,s',rfl,hf,Iq.out _ _ (by rw[ν];exact hr),λh0=>?_,λh0=>?_,.pre adG ho⟩
    ·rw[F h0];unfold lC;rw[if_pos h0]
    ·unfold lC;rw[if_neg h0]
   obtain⟨wb,hwb⟩:=bE R.heap.size;rw[<-hwb] at xY;have v0:=ak xY 0;have v1:=ak xY 1;have v2:=ak xY 2;have z3':=ak (((Ϛ.trans (vG.mono Ϛ.size)).block cb (aC H)).trans H) 3;simp at v0 v1 v2 z3';have GR:Hid (∀G,G=R.alloc (.cells #[.string kb,.slice l1 l2 l3,.slice na nn nc] 88)->G=Y):=λG F=>F.trans hY.symm
   clear Ϛ H yU O J hL hN hM ľ LZ o D AL Bc Z ν hnu hla Ú á Ŗ ô hY vG xY adG V ϻ kN vD Iq z0 z1 z2 z3;rw[ζ];go_upto_region 6 with fail;rw[GR.out _ rfl,<-hwb];clear GR hwb;go_wp2_with fail;refine Calls.mono HCM.out ?_;rintro e w5 Ľ;obtain⟨x,v,rfl,ho⟩:=sK.out e w5 Ľ;have HO:=Ņ ho;clear Ľ ho HCM sK v0 v1 v2 z3';dsimp only
   go_wp2;go_ret2;exact HO.out
theorem SQ{B:Nat}{ea:Nat->Addr}{T:Nat->List UInt8}(w G:World)(E:oH B ea T w)(U:B<=w.heap.size)(R Q W:Nat)(s:PS)(K:List Nat)(h:BS w G R Q W s K)(j:Nat)(hp:iL s j)(hj:j<=200)(l:ByteArray)(hl:l.size<=900):
  Calls prog 15 #[.pointer (some ⟨R,0,none⟩),.string l] G λe w'=>∃a s',e = .returned (.string (txt a))/\ji T s l.data.toList a s'/\iN w G w' Q s' K:=by
 have q:=Ņ (adE w G E U R Q W s K h j hp hj l hl);have Y:=Ņ E;have m1:=Tryz.methES;have m2:=Tryz.methFE;go_enter func15,ntmps15;go_wp2_with fail;refine Calls.mono q.out ?_;rintro e w1 ⟨x,v,C,A,a,s',rfl,Z,D,V,J,O⟩;have H:=Ņ (And.intro D O);have o:=Y.out.below O.aI U;rcases Z with⟨rfl,rfl⟩|⟨m,hm,rfl,hc,_⟩|⟨fb,m,hm,rfl,_,c1,hc⟩
 ·obtain rfl:x=txt a:=V rfl;go_wp2;go_ret;exact⟨a,s',rfl,H.out⟩
 ·have F:a=T m:=by
   have I:=J fO;rw[I];unfold J6;rw[show C.toNat-1=m by omega]
  have z:=Ņ (Jl w1 (ea m) _ (o.tx m hm));rw[<-F] at z;go_wp2_with fail;refine Calls.mono z.out ?_;rintro e w2 ⟨rfl,rfl⟩;dsimp only
  go_wp2;go_ret;exact⟨a,s',rfl,H.out⟩
 ·have F:a=T m:=by
   have I:=J fO;rw[I];unfold J6;rw[show C.toNat-1=m by omega]
  have z:=Ņ (Sk w1 fb (ea m) _ c1 (o.tx m hm));rw[<-F] at z;clear D O o J V q hc hm F c1;go_wp2_with fail;refine Calls.mono z.out ?_;rintro e w2 ⟨rfl,rfl⟩;go_wp2;go_ret;exact⟨a,s',rfl,H.out⟩
abbrev OW:PS:=⟨[],⟨[],false,false,0⟩,[]⟩
structure SS(T:Nat->List UInt8)(w wa wr:World)(yb pb mb:Nat)(ls:List (List UInt8))(av:Value)(ys:List (List UInt8))(s':PS)(K':List Nat):Prop where
 py:BS w wr yb pb mb s' K'
 run:mW T OW ls ys s'
 inv:iL s' ls.length
 own:wr.ownsRow wa.heap.size 9 1 av ls.length (ys.map encStr)
 aI:Below wa.heap.size wa wr
 low:(∀x,x∈K'->wa.heap.size<=x)/\wa.heap.size<=yb/\wa.heap.size<=mb
 out:∀x,av.ownBlock=some x->x∉K'
theorem SS.blk{T:Nat->List UInt8}{w Q wr:World}{F O A:Nat}{K:List (List UInt8)}{z:Value}{R:List (List UInt8)}{s':PS}{G:List Nat}(h:SS T w Q wr F O A K z R s' G){x:Nat}(J:z.ownBlock=some x):x≠F/\x≠A:=by
 obtain⟨_,_,H,o⟩:=aH h.own J;refine⟨λe=>?_,λe=>?_⟩
 ·rw[e,h.py.blk] at o;injection o with o;injection o with _ o _;exact absurd o nQ
 ·obtain⟨D,⟨es,q,I,_⟩,_⟩:=h.py.map;rw[e,I] at o;cases o
theorem SS.step{T:Nat->List UInt8}{w z wr F:World}{V H U:Nat}{D:List (List UInt8)}{G:Value}{I:List (List UInt8)}{s' q:PS}{J:List Nat}{l a:List UInt8}(h:SS T w z wr V H U D G I s' J)(R:ji T s' l a q)(Z:iN w wr F H q J):
  ∃o,BS w F V H U q o/\mW T OW (D ++ [l]) (I ++ [a]) q/\iL q (D ++ [l]).length/\F.ownsRow z.heap.size 9 1 G D.length (I.map encStr)/\Below z.heap.size z F/\(∀x,x∈o->z.heap.size<=x)/\∀x,G.ownBlock=some x->x∉o:=by
 obtain⟨o,W,K,O⟩:=h.py.go Z;have Ϣ:=h.aI.size;refine⟨o,W,h.run.snoc R,by rw[length_append];exact h.inv.line R,bC h.own λg Q=>K.block g (aH h.own Q).2.1 (h.out g Q),h.aI.trans (K.below Ϣ h.low.1),λx A=>?_,λx A Y=>?_⟩
 ·rcases O x A with e|e
  ·exact h.low.1 x e
  ·omega
 ·rcases O x Y with e|e
  ·exact h.out x A e
  ·have:=(aH h.own A).2.1;omega
theorem BS.grow{w wr z:World}{q J o:Nat}{s:PS}{K:List Nat}{row:Option Nat}(h:BS w wr q J o s K)(A:wr.grownBy z row)(G:∀x,row=some x->w.heap.size<=x/\x∉K/\x≠q/\x≠o):BS w z q J o s K:=by
 have I:Kept row.toList wr z:=⟨A.os,A.tape,A.output,A.size,λb O Q=>A.block b O λe=>Q (by rw[<-e];exact mem_singleton.2 rfl)⟩;have H:∀x,x∈row.toList->row=some x:=λx F=>by simpa using F
 exact⟨h.pl.kept I (λx F=>(G x (H x F)).1) (λx F D=>(G x (H x D)).2.1 F),(I.block q (aC h.blk) λD=>(G q (H q D)).2.2.1 rfl).trans h.blk,h.map.same (I.block o h.map.lt λD=>(G o (H o D)).2.2.2 rfl),h.yo,h.mo⟩
def aeY(T:Nat->List UInt8)(wa:World)(ls:List (List UInt8))(e:Ending)(w':World):Prop:=∃v ys s',e = .returned (.tuple #[v,.nilIface])/\mW T OW ls ys s'/\w'.ownsRow wa.heap.size 9 1 v ys.length (ys.map encStr)/\Below wa.heap.size wa w'
theorem Yc{ea:Nat->Addr}(w:World)(q:w.cell? ⟨0,0,none⟩=some (.iface 397 (.pointer (some (ea 1)))))(a:Option Addr)(n c:Nat)(z:100<n)(A:(n:Int)<=9223372036854775807):Calls prog 6 #[.slice a n c] w λe w'=>e = .returned (.tuple #[.slice none 0 0,.iface 397 (.pointer (some (ea 1)))])/\Below w.heap.size w w':=by
 have o:(100:Int)<n:=fO;go_enter func6,ntmps6;go_wp2_with fail;go_quiet (fail);go_wp2;go_ret2;exact⟨rfl,below_draws (Below.refl _ _) _⟩
theorem OX{B:Nat}{ea:Nat->Addr}{T:Nat->List UInt8}(w F:World)(E:oH B ea T w)(hB:B<=w.heap.size)(bT:Below w.heap.size w F)(a:Option Addr)(c:Nat)(A:List (List UInt8))(hS:uI F a A)(hz:∀x,x∈A->x.length<=900)(hn:A.length<=100):
  Calls prog 6 #[.slice a A.length c] F λe w'=>aeY T F A e w':=by
 have iV:=Ņ (aaP w F E.z.x.a hB bT);obtain⟨i0,hi,î,ç,ï⟩:=info_parts Tryz.infoStrG;have qK:=Ņ hi;have HE:=Ņ (And.intro E (And.intro hz bT));have HS:Hid (uI F a A):=hS;obtain⟨n,ϛ⟩:=bE A.length;rw[<-ϛ] at hn ⊢;have iH:=Ņ ϛ;have d1:decide ((100:Int)<n)=false:=decide_eq_false fO;have hws:=bT.size;clear E hz hS hi ϛ bT;go_enter func6,ntmps6;go_wp2_with fail;refine Calls.mono iV.out ?_;rintro e w1 ⟨J,K,rfl,đ,ώ,hK⟩;have Ol:=Ņ (M6 w1);have H1:=Ņ (And.intro đ (And.intro ώ hK));go_wp2_with fail;refine Calls.mono Ol.out ?_;rintro e w2 ⟨H,rfl,G,ϒ,Ŋ⟩;obtain⟨đ,ώ,hK⟩:=H1.out;obtain⟨Y,hY⟩:=bE (w2.alloc (.cells #[.pointer (some ⟨J,0,none⟩),.map (some H)] 49));have vG:Below w2.heap.size w2 Y:=by rw[hY];exact (Below.refl _ _).alloc (le_refl _) _
 have xY:Y.heap[w2.heap.size]? = some (.cells #[.pointer (some ⟨J,0,none⟩),.map (some H)] 49 (0,0)):=by rw[hY];exact heap_alloc_new _ _
 obtain⟨V,U⟩:=bE w2.heap.size;rw[<-U] at xY;have s1:=ώ.size;have s2:=ϒ.size;have HPY:Hid (BS w Y V J H OW K/\Below F.heap.size F Y/\(∀x,x∈K->F.heap.size<=x)/\F.heap.size<=V/\F.heap.size<=H):=by
  have Rc:=ϒ.trans (vG.mono ϒ.size);refine⟨⟨đ.below Rc,xY,G.same (vG.block _ G.lt),λI=>?_,λI=>?_⟩,ώ.trans (Rc.mono ώ.size),hK,fO,fO⟩
  ·have:=(đ.mem I).2;omega
  ·have:=(đ.mem I).2;omega
 have GR:Hid (∀wx,wx=w2.alloc (.cells #[.pointer (some ⟨J,0,none⟩),.map (some H)] 49)->wx=Y):=λwx D=>D.trans hY.symm
 clear đ ώ hK G ϒ Ŋ hY vG xY Ol H1 s1 s2;go_upto_region 4 with fail;rw[GR.out _ rfl,<-U];clear GR U;have hYs:=HPY.out.2.1.size;go_wp2_with (at_make;refine wpList_make_own _ rfl _ _ 22 rfl F.heap.size 9 i0 (.string ⟨#[]⟩) 1 underlying22 qK.out î ç _ _ _ n rfl rfl fO ?b2 ?b3 fO ?_);case b2=>rw[ï];omega
 case b3=>unfold maxLen;omega
 intro w0 Ì iT;have Ø:Below Y.heap.size Y w0:=⟨iT.os,iT.tape,iT.output,iT.size,λj hj=>iT.block j hj vI⟩;have uT:Hid (SS T w F w0 V J H [] (.slice (some ⟨Y.heap.size,0,none⟩) 0 n) [] OW K):=by
  obtain⟨W,h2,h3,h4,h5⟩:=HPY.out;refine⟨W.below Ø,⟨rfl,rfl⟩,iL.new,Ì,h2.trans (Ø.mono h2.size),⟨h3,h4,h5⟩,λx D I=>?_⟩;have D:Y.heap.size=x:=by simpa [Value.ownBlock] using D
  have:=(W.pl.mem I).2;omega
 go_wp2_with fail;go_loopw [5,7,21] (λav _ iv wr=>∃(q:Nat) (ys:List (List UInt8)) (s':PS) (K':List Nat),q<=n/\iv = .int .i64 (q:Int)/\SS T w F wr V J H (A.take q) av ys s' K') (λ_ _ iv _=>n-(intOf iv).toNat);case atStart=>exact⟨0,[],OW,K,zero_le _,by first|rfl|go_num,uT.out⟩
 case round=>
  obtain⟨q,ys,s',K',hq,rfl,Q⟩:=hrel;have EF:=Ņ Q;by_cases BA:q<n
  ·have Gw:q<A.length:=by rw[<-iH.out];exact BA
   obtain⟨g,o,rfl,ò⟩:=(HS.out.below Q.aI) q Gw;have ű:(A.take q).length=q:=by rw[length_take];omega
   obtain⟨x,D⟩:∃x:ByteArray,encStr A[q] = .string x:=⟨_,rfl⟩;have hxx:x.data.toList=A[q]/\x.size<=900:=by
    have e1:x=txt A[q]:=by injection D.symm
    refine⟨by rw[e1];simp[txt],?_⟩;rw[e1,dB];exact HE.out.2.1 _ (getElem_mem Gw)
   rw[D] at ò;have ϻ:=Q.inv;rw[ű] at ϻ;have R:=Ņ (SQ w wr HE.out.1 hB V J H s' K' Q.py q ϻ fO x hxx.2);rw[hxx.1] at R;have ό:=Q.own;rw[ű] at ό;obtain⟨aa,ac,rfl⟩:∃z1 z2,u5 = .slice z1 q z2:=lD ό;have Au:=Ņ (And.intro ű (show A.take (q+1)=A.take q ++ [A[q]] from take_succ_eq_append_getElem Gw));have j0:(0:Int)<=q:=fO
   have j1:(q:Int)<n:=fO;go_wp2_with fail;refine Calls.mono R.out ?_;rintro e O ⟨y,s2,rfl,hlr,ho⟩;obtain⟨K2,m1,m2,m3,Z,m5,m6,m7⟩:=EF.out.step hlr ho;rw[Au.out.1] at Z;rw[<-Au.out.2] at m2 m3;obtain⟨X,hX⟩:=bE (txt y);have lJ:Hid ((O.alloc (.cells #[.string X] 9)).ownsRow F.heap.size 9 1 (.slice aa q ac) q (ys.map encStr)):=Z.alloc _;have aow:Hid (∀i z,([.string X]:List Value)[i]? = some z->(O.alloc (.cells #[.string X] 9)).cell? ((⟨O.heap.size,0,none⟩:Addr).add i)=some z):=World.news_of_block (heap_alloc_new O _);have kH:Hid (∀z∈([.string X]:List Value),z.oneCell'=true):=by
    intro z hz;simp at hz;subst hz;rfl
   have ĕ:=m5.size;have HMM:=Ņ (And.intro m1 (And.intro m2 (And.intro m3 (And.intro Z (And.intro m5 (And.intro m6 (And.intro m7 hX)))))));rw[<-hX];clear m1 m2 m3 Z m5 m6 m7 hX hlr ho R;go_wp2_with (at_builtin;refine wpList_append_lies _ rfl _ _ 22 rfl F.heap.size 9 i0 (.string ⟨#[]⟩) 1 16 underlying22 qK.out î ç ï rfl nQ _ _ _ rfl lJ.out ⟨O.heap.size,0,none⟩ 1 1 [.string X] rfl rfl aow.out kH.out fO (by unfold maxLen;omega) fO rD _ rfl ?_);intro g7 dR w7 bR eu qb _;have jP:Hid (SS T w F w7 V J H (A.take (q+1)) (.slice (some ⟨g7,0,none⟩) (q+1) dR) (ys ++ [y]) s2 K2):=by
    obtain⟨m1,m2,m3,Z,m5,m6,m7,hX⟩:=HMM.out;have sD:Below O.heap.size O (O.alloc (.cells #[.string X] 9)):=(Below.refl _ _).alloc (le_refl _) _;have m1A:=m1.below sD;have Ϯ:∀x,(Value.slice aa q ac).ownBlock=some x->x≠V/\x≠H:=λx D=>EF.out.blk D
    refine⟨m1A.grow eu λx D=>⟨le_trans hws (aH Z D).1,m7 x D,(Ϯ x D).1,(Ϯ x D).2⟩,m2,m3,?_,(m5.alloc ĕ _).grown eu rD (λk hk=>(lJ.out.lt k hk).1),⟨m6,EF.out.low.2⟩,λx D I=>?_⟩
    ·rw[Au.out.2,length_append,Au.out.1,map_append];rw[hX] at bR;exact bR
    ·have D:g7=x:=by simpa [Value.ownBlock] using D
     subst D;rcases qb with e|e
     ·exact m7 g7 e I
     ·have h9:=(m1A.pl.mem I).2;rw[e] at h9;simp at h9
   go_wp2;go_roundw;case rel=>exact⟨q+1,_,_,_,fO,by go_num,jP.out⟩
   case measure=>simp[intOf]<;>omega
  ·obtain rfl:q=n:=fO;have sK:Hid (aeY T F A (.returned (.tuple #[u5,.nilIface])) wr):=by
    have e1:A.take q=A:=by rw[iH.out,take_length]
    have W:=Q.run;have h2:=Q.own;rw[e1] at W h2;exact⟨u5,ys,s',rfl,W,by rw[W.len];exact h2,Q.aI⟩
   go_wp2;go_ret2;exact sK.out
def hL:List (List UInt8):=[[97,100,100,32,110,61,97,32,51,32,55],[103,101,116,32,110,61,97,32,48,32,57],[102,108,117,115,104,32,49,48,48],[98,108,111,99,107,115]]
def hA:List (List UInt8):=[[111,107],[110,61,97,32,51,58,55],[49],[48,43,53,48]]
theorem xO(u:Nat)(h:u<10):Lib.decDigits u = [UInt8.ofNat (48+u)]:=by rw[Lib.decDigits,dif_pos h]
theorem agk:Lib.decDigits 100 = [49,48,48]:=by
 rw[Lib.decDigits,dif_neg nQ,Lib.decDigits,dif_neg nQ,xO _ nQ];rfl
theorem ajM:Lib.decDigits 50 = [53,48]:=by
 rw[Lib.decDigits,dif_neg nQ,xO _ nQ];rfl
theorem abe(u:Nat)(h:u<10):pI [UInt8.ofNat (48+u)]=some (u:Int):=by
 have o:Lib.itoa (u:Int) = [UInt8.ofNat (48+u)]:=by
  unfold Lib.itoa;rw[if_neg fO,Int.toNat_natCast,xO u h]
 have q:Lib.atoiAll [UInt8.ofNat (48+u)] = .ok (u:Int):=by
  rcases (by omega:u=0\/u=1\/u=2\/u=3\/u=4\/u=5\/u=6\/u=7\/u=8\/u=9) with rfl|rfl|rfl|rfl|rfl|rfl|rfl|rfl|rfl|rfl;all_goals rfl
 unfold pI;rw[q];exact if_pos ⟨vI,fO,o⟩
theorem ajN:pI [49,48,48]=some 100:=by
 have o:Lib.itoa 100 = [49,48,48]:=by
  unfold Lib.itoa;rw[if_neg nQ];exact agk
 have q:Lib.atoiAll [49,48,48] = .ok 100:=by rfl
 unfold pI;rw[q];exact if_pos ⟨nQ,nQ,o⟩
theorem adH(a b:Nat)(o:a<10)(q:b<10):numsL [[UInt8.ofNat (48+a)],[UInt8.ofNat (48+b)]]=some [(a:Int),(b:Int)]:=by
 unfold numsL;rw[abe a o];unfold numsL;rw[abe b q];rfl
abbrev Ē:Dk:=⟨dN (lZ,3,7),false,false,0⟩
theorem Yd:lu 0 50 pz:=by
 refine⟨nQ,nQ,Cu.up,λr o=>⟨(Cu.each r o).1,(Cu.each r o).2.1,?_⟩⟩;simp[pz] at o;subst o;decide
theorem h_M:Fa 50 100 pE = [(0,50,pz)]/\LG 50 100 pE=0:=by
 have h:=(afu Yd).1;have o:Ji 50 100 pE=pz:=nQ;have q:zS 50 pz = [0]:=nQ;have z:je 50 0 pz=pz:=nQ;unfold Fa LG;rw[o,q,tu,xK,z,if_pos h,if_pos h];exact⟨rfl,rfl⟩
theorem aox(d:Dk)(A:d.off=false):yI 50 100 pE d []=0/\AY 50 100 pE d []=1/\AX 50 100 pE [] 6 = [(0,50,pz)]:=by
 have q:wX 50 100 pE []=naT:=by
  unfold wX;rw[h_M.1];rfl
 have z:GI 50 100 pE [] = []:=by
  unfold GI;rw[q];decide
 have o:yI 50 100 pE d []=0:=by
  unfold yI;rw[h_M.2,z,if_neg nQ];unfold Jg;rw[A,if_neg nQ];rfl
 refine⟨o,?_,?_⟩
 ·unfold AY;rw[o,if_neg nQ,h_M.1];rfl
 ·unfold AX;rw[h_M.1];rfl
theorem ae0:fT lZ = [([110],[97])]:=nQ
theorem aoy:zi lZ=0:=by
 unfold zi;rw[ae0];unfold mC;rw[if_neg nQ];have:iE (pR KQ (nameAt [([110],[97])])) 1=1:=q9 _ 1 1 (le_refl _) (λi o=>(by omega:i=0) ▸ nQ) (λh=>absurd h nQ);simp only[length_cons,length_nil];rw[this];rfl
theorem akT:yV ⟨pE,Ē,[]⟩ lZ 0 9 = [(lZ,[(3,7)])]:=by
 unfold yV A9 kZ;rw[ae0];have o:Dj pE [] = [lZ]:=nQ
 have q:GJ pE [] lZ 0 9 = [(3,7)]:=nQ;have z:GK lZ KQ (nameAt [([110],[97])]) (cK [([110],[97])]) 1=true:=by
  unfold GK;rw[show scan lZ [] [] [] false=some [([110],[97])] by decide];simp[qW,zW,nu,KQ]
 rw[o,flatMap_cons,flatMap_nil,q,if_pos ⟨z,vI⟩];rfl
theorem abf(c a b:Nat)(A:c=0\/c=5)(q:a<10)(z:b<10):LY c [lZ,[UInt8.ofNat (48+a)],[UInt8.ofNat (48+b)]]=some (lZ,[(a:Int),(b:Int)]):=by
 have o:Dl 2 false lZ [[UInt8.ofNat (48+a)],[UInt8.ofNat (48+b)]]=some (lZ,[(a:Int),(b:Int)]):=by
  unfold Dl;rw[if_neg vI,adH a b q z];rfl
 unfold LY LX;rcases A with rfl|rfl
 ·exact (if_pos Al).trans o
 ·exact (if_pos Al).trans o
theorem Ew{T:Nat->List UInt8}{s s':PS}{l a h:List UInt8}{t:List (List UInt8)}{c:Nat}{k:List UInt8}{ns:List Int}(z:qN 32 [] l=h::t)(o:qO h=some c)(A:LY c t=some (k,ns))(q:tF T s c k ns a s'):ji T s l a s':=by
 unfold ji;rw[z];dsimp only [headD_cons,tail_cons];rw[o];dsimp only
 rw[A];exact q
theorem abg{T:Nat->List UInt8}{s s':PS}{k:List UInt8}{ns:List Int}{a:List UInt8}(h:ns.getD 0 0<=1099511627776)(o:a=lC T (yI 50 (ns.getD 0 0) s.S s.d s.Bs) (Lib.itoa (AY 50 (ns.getD 0 0) s.S s.d s.Bs))/\s'=⟨wX 50 (ns.getD 0 0) s.S s.Bs,OO 50 (ns.getD 0 0) s.S s.d s.Bs,AX 50 (ns.getD 0 0) s.S s.Bs 6⟩):tF T s 1 k ns a s':=(if_pos h).mpr o
theorem Uk(T:Nat->List UInt8):∃s',mW T OW hL hA s':=by
 obtain⟨q,z,A⟩:=akO;have H:ji T OW [97,100,100,32,110,61,97,32,51,32,55] BQ ⟨pE,Ē,[]⟩:=by
  refine Ew (h:=[97,100,100]) (t:=[lZ,[51],[55]]) (c:=0) nQ nQ (abf 0 3 7 (.inl rfl) nQ nQ) ?_;show BQ=lC T (wF [] ⟨[],false,false,0⟩ [] lZ 3 7) BQ/\(⟨pE,Ē,[]⟩:PS)=⟨AJ [] ⟨[],false,false,0⟩ [] lZ 3 7,Df [] ⟨[],false,false,0⟩ [] lZ 3 7,[]⟩;rw[q,z,A];exact⟨rfl,rfl⟩
 have I:ji T ⟨pE,Ē,[]⟩ [103,101,116,32,110,61,97,32,48,32,57] [110,61,97,32,51,58,55] ⟨pE,Ē,[]⟩:=by
  refine Ew (h:=[103,101,116]) (t:=[lZ,[48],[57]]) (c:=5) nQ nQ (abf 5 0 9 (.inr rfl) nQ nQ) ?_;show [110,61,97,32,51,58,55]=lC T (zi lZ) (oQ [59,32] ((yV ⟨pE,Ē,[]⟩ lZ 0 9).map l9))/\_;rw[aoy,akT];refine⟨?_,rfl⟩;unfold lC oQ;rw[if_pos rfl,if_neg vI,map_cons,map_nil,Lib.join_one];unfold l9;simp only[flatMap_cons,flatMap_nil];rw[show Lib.itoa 3=Lib.decDigits 3 from rfl,xO 3 nQ,xO 7 nQ];rfl
 have J:ji T ⟨pE,Ē,[]⟩ [102,108,117,115,104,32,49,48,48] [49] ⟨wX 50 100 pE [],OO 50 100 pE Ē [],[(0,50,pz)]⟩:=by
  have O:LY 1 [[49,48,48]]=some ([],[100]):=by
   show Dl 1 false [] [[49,48,48]]=_;unfold Dl;rw[if_neg vI];unfold numsL;rw[ajN];rfl
  obtain⟨D,F,G⟩:=aox Ē rfl;have o:∀a s',(a=lC T (yI 50 100 pE Ē []) (Lib.itoa (AY 50 100 pE Ē []))/\s'=⟨wX 50 100 pE [],OO 50 100 pE Ē [],AX 50 100 pE [] 6⟩)->tF T ⟨pE,Ē,[]⟩ 1 [] [100] a s':=λa s' h=>abg (ns:=[100]) nQ h
  refine Ew (h:=[102,108,117,115,104]) (t:=[[49,48,48]]) (c:=1) nQ nQ O (o _ _ ?_);rw[D,F,G];refine⟨?_,rfl⟩;unfold lC;rw[if_pos rfl,show Lib.itoa 1=Lib.decDigits 1 from rfl,xO 1 nQ];rfl
 have K:∀S d,ji T ⟨S,d,[(0,50,pz)]⟩ [98,108,111,99,107,115] [48,43,53,48] ⟨S,d,[(0,50,pz)]⟩:=λS d=>by
  refine Ew (h:=[98,108,111,99,107,115]) (t:=[]) (c:=7) (k:=[]) (ns:=[]) nQ nQ rfl ⟨?_,rfl⟩;unfold oQ;rw[if_neg vI,map_cons,map_nil,Lib.join_one];unfold uM;rw[show Lib.itoa 0=Lib.decDigits 0 from rfl,show Lib.itoa 50=Lib.decDigits 50 from rfl,xO 0 nQ,ajM];rfl
 exact⟨_,BQ,_,_,H,rfl,_,_,_,I,rfl,_,_,_,J,rfl,_,_,_,K _ _,rfl,rfl,rfl⟩
theorem abh{B:Nat}{ea:Nat->Addr}{T:Nat->List UInt8}(w:World)(E:oH B ea T w)(Z:B<=w.heap.size):
  Calls prog 5 #[] w λe w'=>e = .returned (.bool true)/\Below w.heap.size w w':=by
 obtain⟨W,I⟩:=bE (w.alloc (.cells #[.string ⟨#[97,100,100,32,110,61,97,32,51,32,55]⟩,.string ⟨#[103,101,116,32,110,61,97,32,48,32,57]⟩,.string ⟨#[102,108,117,115,104,32,49,48,48]⟩,.string ⟨#[98,108,111,99,107,115]⟩] 9));have U:Below w.heap.size w W:=by rw[I];exact (Below.refl _ _).alloc (le_refl _) _
 have xW:W.heap[w.heap.size]? = some (.cells #[.string ⟨#[97,100,100,32,110,61,97,32,51,32,55]⟩,.string ⟨#[103,101,116,32,110,61,97,32,48,32,57]⟩,.string ⟨#[102,108,117,115,104,32,49,48,48]⟩,.string ⟨#[98,108,111,99,107,115]⟩] 9 (0,0)):=by rw[I];exact heap_alloc_new _ _
 have R:=(show Hid _ from OX w W E Z U (some ⟨w.heap.size,0,none⟩) 4 hL (λk hk=>⟨w.heap.size,0,rfl,by
  rw[zero_add,ak xW k];match k,hk with
  | 0,_=>rfl
  | 1,_=>rfl
  | 2,_=>rfl
  | 3,_=>rfl⟩) nQ nQ)
 have O:Hid (∀z,z=w.alloc (.cells #[.string ⟨#[97,100,100,32,110,61,97,32,51,32,55]⟩,.string ⟨#[103,101,116,32,110,61,97,32,48,32,57]⟩,.string ⟨#[102,108,117,115,104,32,49,48,48]⟩,.string ⟨#[98,108,111,99,107,115]⟩] 9)->z=W):=λz A=>A.trans I.symm
 have H:=Ņ U;go_enter func5,ntmps5;go_wp2_with fail;rw[O.out _ rfl];refine Calls.mono R.out ?_;rintro e w1 ⟨v,ys,s',rfl,Y,J,K⟩;obtain⟨sx,A⟩:=Uk T;obtain⟨rfl,_⟩:=Y.unique A;obtain⟨V,D⟩:=bE (w1.alloc (.cells #[.string ⟨#[111,107]⟩,.string ⟨#[110,61,97,32,51,58,55]⟩,.string ⟨#[49]⟩,.string ⟨#[48,43,53,48]⟩] 9));have o:Below w1.heap.size w1 V:=by rw[D];exact (Below.refl _ _).alloc (le_refl _) _
 have Q:V.heap[w1.heap.size]? = some (.cells #[.string ⟨#[111,107]⟩,.string ⟨#[110,61,97,32,51,58,55]⟩,.string ⟨#[49]⟩,.string ⟨#[48,43,53,48]⟩] 9 (0,0)):=by rw[D];exact heap_alloc_new _ _
 have F:=Ņ (Xg V W.heap.size w1.heap.size v (.slice (some ⟨w1.heap.size,0,none⟩) 4 4) hA (aX J o) ⟨rfl,.inr ⟨w1.heap.size,4,_,rfl,le_refl _,Q,nQ,nQ,nQ,rfl⟩⟩ nQ);have G:Hid (∀z,z=w1.alloc (.cells #[.string ⟨#[111,107]⟩,.string ⟨#[110,61,97,32,51,58,55]⟩,.string ⟨#[49]⟩,.string ⟨#[48,43,53,48]⟩] 9)->z=V):=λz A=>A.trans D.symm
 have sK:Hid (∀q,Below w.heap.size w (V.drewN q)):=λq=>below_draws ((H.out.trans (K.mono H.out.size)).trans (o.mono (le_trans H.out.size K.size))) q
 obtain⟨va,vc,rfl⟩:=lD J;clear Y A J K D o Q R O;go_wp2_with fail;rw[G.out _ rfl];refine Calls.mono F.out ?_;rintro e w2 ⟨rfl,q,rfl⟩;go_wp2;go_ret;exact⟨rfl,sK.out q⟩
def wJ(k:List UInt8)(lb:Bool)(n:Int)(is:Bool):Prop:=(qO k=none/\is=false)\/∃c,qO k=some c/\is=true/\lb=GN c/\n=if c=8 then -1 else (M4 c:Int)
theorem qC{s:ByteArray}{l:List UInt8}(h:s.data.toList≠l):(s.toList==l)=false:=by
 rw[beq_eq_false_iff_ne,ByteArray.toList_eq];exact h
theorem rZ{s:ByteArray}{l:List UInt8}(h:s.data.toList=l):(s.toList==l)=true:=by
 rw[beq_iff_eq,ByteArray.toList_eq];exact h
theorem adI(w:World)(s:ByteArray):Calls prog 8 #[.string s] w λe w'=>∃lb n K,e = .returned (.tuple #[.bool lb,.int .i64 n,.bool K])/\w'=w/\wJ s.data.toList lb n K:=by
 by_cases q:s.data.toList = [97,100,100]
 ·have O:=rZ q;have o:Hid (wJ s.data.toList true 2 true):=.inr ⟨0,by rw[q];decide,rfl,rfl,rfl⟩;go_enter func8,ntmps8;go_wp2;go_ret3;exact⟨_,_,_,rfl,rfl,o.out⟩
 have O:=qC q;by_cases z:s.data.toList = [103,101,116]
 ·have Q:=rZ z;have o:Hid (wJ s.data.toList true 2 true):=.inr ⟨5,by rw[z];decide,rfl,rfl,rfl⟩;go_enter func8,ntmps8;go_wp2;go_ret3;exact⟨_,_,_,rfl,rfl,o.out⟩
 have Q:=qC z;by_cases A:s.data.toList = [115,117,109]
 ·have R:=rZ A;have o:Hid (wJ s.data.toList true 2 true):=.inr ⟨6,by rw[A];decide,rfl,rfl,rfl⟩;go_enter func8,ntmps8;go_wp2;go_ret3;exact⟨_,_,_,rfl,rfl,o.out⟩
 have R:=qC A;by_cases D:s.data.toList = [102,108,117,115,104]
 ·have U:=rZ D;have o:Hid (wJ s.data.toList false 1 true):=.inr ⟨1,by rw[D];decide,rfl,rfl,rfl⟩;go_enter func8,ntmps8;go_wp2;go_ret3;exact⟨_,_,_,rfl,rfl,o.out⟩
 have U:=qC D;by_cases F:s.data.toList = [99,117,116]
 ·have V:=rZ F;have o:Hid (wJ s.data.toList false 1 true):=.inr ⟨3,by rw[F];decide,rfl,rfl,rfl⟩;go_enter func8,ntmps8;go_wp2;go_ret3;exact⟨_,_,_,rfl,rfl,o.out⟩
 have V:=qC F;by_cases G:s.data.toList = [99,111,109,112,97,99,116]
 ·have W:=rZ G;have o:Hid (wJ s.data.toList false 0 true):=.inr ⟨2,by rw[G];decide,rfl,rfl,rfl⟩;go_enter func8,ntmps8;go_wp2;go_ret3;exact⟨_,_,_,rfl,rfl,o.out⟩
 have W:=qC G;by_cases H:s.data.toList = [98,111,111,116]
 ·have Y:=rZ H;have o:Hid (wJ s.data.toList false 0 true):=.inr ⟨4,by rw[H];decide,rfl,rfl,rfl⟩;go_enter func8,ntmps8;go_wp2;go_ret3;exact⟨_,_,_,rfl,rfl,o.out⟩
 have Y:=qC H;by_cases I:s.data.toList = [98,108,111,99,107,115]
 ·have Z:=rZ I;have o:Hid (wJ s.data.toList false 0 true):=.inr ⟨7,by rw[I];decide,rfl,rfl,rfl⟩;go_enter func8,ntmps8;go_wp2;go_ret3;exact⟨_,_,_,rfl,rfl,o.out⟩
 have Z:=qC I;by_cases J:s.data.toList = [99,104,117,110,107]
 ·have e8:=rZ J;have o:Hid (wJ s.data.toList false (-1) true):=.inr ⟨8,by rw[J];decide,rfl,rfl,rfl⟩;go_enter func8,ntmps8;go_wp2;go_ret3;exact⟨_,_,_,rfl,rfl,o.out⟩
 have e8:=qC J;have o:Hid (wJ s.data.toList false 0 false):=.inl ⟨by
  unfold qO;rw[if_neg J,if_neg I,if_neg A,if_neg z,if_neg H,if_neg F,if_neg G,if_neg D,if_neg q],rfl⟩
 go_enter func8,ntmps8;go_wp2;go_ret3;exact⟨_,_,_,rfl,rfl,o.out⟩
end Go.Proofs.YtnjmhjdhfaboaaaGreatDoor
