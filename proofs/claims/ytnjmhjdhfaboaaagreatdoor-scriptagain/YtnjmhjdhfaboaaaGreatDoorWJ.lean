import Derived.Test.YtnjmhjdhfaboaaaGreatDoorWE
import Derived.Test.YtnjmhjdhfaboaaaGreatDoorWC
import Derived.Test.YtnjmhjdhfaboaaaGreatDoorD
import Derived.Shelf.Strings.Repeat
set_option maxRecDepth 1000000
set_option maxHeartbeats 4000000
open Go.Proofs.Tryz
namespace Go.Proofs.YtnjmhjdhfaboaaaGreatDoor
open Go.Shelf
theorem ŝ{p:Prop}(h:p):Go.RowKit.Hid p:=h
def Jg:Go.Shelf.Ren:=⟨fun|105=>226|212=>269|99=>225|165=>119|166=>75|170=>270|169=>77|263=>290|264=>291|206=>268|240=>117|241=>164|276=>163|277=>208|n=>n,fun|9=>9|3=>3|4=>4|20=>20|0=>0|46=>162|109=>359|5=>5|72=>153|76=>94|51=>224|146=>381|53=>91|148=>386|70=>151|37=>82|75=>25|127=>216|164=>121|80=>71|n=>n,fun|n=>n⟩
theorem agb:Go.Proofs.Lays.n105 prog Jg:=by constructor<;>first|kernel_rfl|exact λ_=>by kernel_rfl|exact⟨_,lJ,rfl⟩
theorem agc:Builder.Extra prog Jg where
 sizeBuilder:=kM
 liesBuilder:=kM
 t5:=underlying5
 a5:=isAgg5
 z5:=sizeOf5
 v5:=zeroValue5
 infoByte:=kM
 cellsByte:=kM
 sizeByte:=kM
 neB5:=lJ
open Go.RowKit aR
def P16(l:List UInt8)(e:Ending):Prop:=
 (l ≠ []/\∃v:Nat,dP 0 l=some v/\e = .returned (.tuple #[.int .u64 (v:Int),.nilIface])) \/
 ((l = []\/dP 0 l=none)/\∃x m:Int,(m=1\/m=2)/\e = .returned (.tuple #[.int .u64 x,.iface 352 (.int .i64 m)]))
theorem ak9:∀c:Nat,c<256->bits .or .u8 (c:Int) 32=((c|||32:Nat):Int):=lJ
theorem aiD:∀c:Nat,c<256->97<=c|||32->c|||32<=102->57<c/\c≠95:=lJ
theorem XK(c:Nat)(j:c<256)(w:World):Calls prog 299 #[.int .u8 (c:Int)] w λe w'=>e = .returned (.int .u8 ((c|||32:Nat):Int))/\w'=w:=by
 have h:=ak9 c j;go_enter func299,ntmps299;go_wp2;go_ret;exact⟨rfl,rfl⟩
theorem aaq(t:ByteArray)(hmax:t.size<=1000000)(w:World):
  Calls prog 287 #[.string t,.int .i64 16,.int .i64 64] w λe w'=>P16 t.data.toList e/\Below w.heap.size w w':=by
 by_cases Ϙ:t.size=0
 ·have hem:t.toList.isEmpty=true:=by
   have:=List.eq_nil_of_length_eq_zero (by rw[Array.length_toList];exact Ϙ);rw[ByteArray.toList_eq,this];rfl
  have HE:=ŝ (List.eq_nil_of_length_eq_zero (by rw[Array.length_toList];exact Ϙ));clear Ϙ;go_enter func287,ntmps287;go_wp2;go_ret2;exact⟨.inr ⟨.inl HE.out,0,2,.inr rfl,rfl⟩,Below.refl _ _⟩
 have hemp:t.toList.isEmpty=false:=by
  rw[<-decide_eq_emptyBytes];exact decide_eq_false (λh=>Ϙ (by rw[h];rfl))
 have š:=Lib.run_convert_string_bytes (P:=prog) w 9 82 5 t (u:=.string) underlying9 underlying82 underlying5;have hB:∀j,j<t.size->(Lib.bytesWorld w 5 t).cell? ⟨w.heap.size,j,none⟩=some (.int .u8 (t.data.toList.getD j 0).toNat):=λj hj=>Lib.bytesWorld_cell w 5 t j hj
 have Y:Hid (Below w.heap.size w (Lib.bytesWorld w 5 t)):=Lib.bytesWorld_below _ _ _;obtain⟨W1,ä⟩:=bF (Lib.bytesWorld w 5 t);rw[<-ä] at š hB Y;clear ä;obtain⟨H,hL⟩:=bF t.data.toList;have hLn:H.length=t.size:=by rw[hL,Array.length_toList];rfl
 rw[<-hL] at hB ⊢;have Vp:Hid (H ≠ []):=by
  show H ≠ [];intro h;rw[h] at hLn;exact Ϙ hLn.symm
 clear hL;have Oz:=ŝ hB;have hmv:IntKind.u64.wrap (IntKind.u64.wrap 18446744073709551616-1)=18446744073709551615:=by
  rw[IntKind.wrap_u64,IntKind.wrap_u64];decide
 clear hB;go_enter func287,ntmps287;go_wp2_with fail;go_loop [12,13,101] (λvu vn vi=>∃(k z:Nat) (a:Int),vu = .bool false/\vn = .int .u64 a/\vi = .int .i64 k/\k<=t.size/\Hid (a=(z:Int)/\z<18446744073709551616/\dP 0 H=dP z (H.drop k)))
  (λ_ _ vi=>t.size-(intOf vi).toNat)
 case atStart=>exact⟨0,0,0,rfl,rfl,rfl,fM,rfl,fM,rfl⟩
 case round=>
  obtain⟨k,z,a,rfl,rfl,rfl,hk,hh⟩:=hrel;obtain⟨ha,I,D⟩:=hh.out;clear hh;have a0:0<=a:=fM;have a1:a<18446744073709551616:=fM;by_cases ϣ:k<t.size
  ·have hc:=Oz.out k ϣ;have χ:H.drop k=H[k]'fM::H.drop (k+1):=List.drop_eq_getElem_cons fM;have ϫ:H.getD k 0=H[k]'fM:=by simp[List.getD,List.getElem?_eq_getElem (show k<H.length by omega)]
   rw[χ,dP] at D;rw[ϫ] at hc;generalize H[k]'fM=c at hc D;have G:c.toNat<256:=c.toNat_lt;have K:Hid (∀w',Calls prog 299 #[.int .u8 (c.toNat:Int)] w' λe w2=>e = .returned (.int .u8 ((c.toNat|||32:Nat):Int))/\w2=w'):=λw'=>XK c.toNat G w'
   obtain⟨A,Ρ⟩:=bF (c.toNat|||32);have aqt:A<256:=by rw[Ρ];exact Nat.or_lt_two_pow (n:=8) G lJ
   rw[<-Ρ] at K;have hv:Ck c.toNat=if 48<=c.toNat/\c.toNat<=57 then some (c.toNat-48) else if 97<=A/\A<=102 then some (A-87) else none:=by rw[Ρ];rfl
   have Z:=ŝ hv;have Gu:=ŝ D;have U:Hid (97<=A->A<=102->57<c.toNat/\c.toNat≠95):=by rw[Ρ];exact aiD _ G
   clear χ ϫ Ρ hv D;obtain⟨F,hcn⟩:=bF c.toNat;rw[<-hcn] at hc G K Z Gu U;clear hcn;by_cases J:48<=F/\F<=57
   ·obtain⟨hd0,ū⟩:=J;have O:Ck F=some (F-48):=by rw[Z.out,if_pos ⟨hd0,ū⟩]
    have D:=Gu.out;rw[O] at D;dsimp only at D;by_cases hcut:1152921504606846976<=z
    ·rw[if_pos hcut] at D;have R:=ŝ D;have Q:1152921504606846976<=a:=fM
     clear hcut I O ha D;go_wp2;go_ret2;exact⟨.inr ⟨.inr R.out,_,1,.inl rfl,rfl⟩,Y.out⟩
    ·rw[if_neg hcut] at D;have HN:Hid (a*16+((F:Int)-48)=((z*16+(F-48):Nat):Int)/\z*16+(F-48)<18446744073709551616/\dP 0 H=dP (z*16+(F-48)) (H.drop (k+1))):=⟨fM,fM,D⟩;have Q:a<1152921504606846976:=fM
     have iov:a*16+((F:Int)-48)<18446744073709551616:=fM;clear hcut I O D ha;go_wp2;exact⟨⟨k+1,z*16+(F-48),a*16+((F:Int)-48),rfl,(by first|rfl|(congr 1;omega)),(by first|rfl|(congr 1;omega)),fM,HN⟩,by simp[intOf];omega⟩
   ·by_cases Μ:97<=A/\A<=102
    ·obtain⟨Ī,Ĳ⟩:=Μ;have O:Ck F=some (A-87):=by rw[Z.out,if_neg J,if_pos ⟨Ī,Ĳ⟩]
     have D:=Gu.out;rw[O] at D;dsimp only at D;have il0:(97:Int)<=A:=fM;have il1:(A:Int)<=122:=fM;have hgt:=U.out Ī Ĳ;have Vy:(48:Int)<=F:=fM;have V:decide ((F:Int)<=57)=false:=qz;have d95:((F:Int)==95)=false:=rV;clear J U Z hgt;by_cases hcut:1152921504606846976<=z
     ·rw[if_pos hcut] at D;have R:=ŝ D;have Q:1152921504606846976<=a:=fM
      clear hcut I O ha D;go_wp2_with fail;refine Calls.mono (K.out _) ?_;rintro e w' ⟨rfl,q⟩;have o:=q.symm;subst o;go_wp2_with fail;refine Calls.mono (K.out _) ?_;rintro e w' ⟨rfl,q⟩;have o:=q.symm;subst o;go_wp2_with fail;refine Calls.mono (K.out _) ?_;rintro e w' ⟨rfl,q⟩;have o:=q.symm;subst o;go_wp2;go_ret2;exact⟨.inr ⟨.inr R.out,_,1,.inl rfl,rfl⟩,Y.out⟩
     ·rw[if_neg hcut] at D;have HN:Hid (a*16+((A:Int)-97+10)=((z*16+(A-87):Nat):Int)/\z*16+(A-87)<18446744073709551616/\dP 0 H=dP (z*16+(A-87)) (H.drop (k+1))):=⟨fM,fM,D⟩;have Q:a<1152921504606846976:=fM
      have iov:a*16+((A:Int)-97+10)<18446744073709551616:=fM;clear hcut I O D ha;go_wp2_with fail;refine Calls.mono (K.out _) ?_;rintro e w' ⟨rfl,q⟩;have o:=q.symm;subst o;go_wp2_with fail;refine Calls.mono (K.out _) ?_;rintro e w' ⟨rfl,q⟩;have o:=q.symm;subst o;go_wp2_with fail;refine Calls.mono (K.out _) ?_;rintro e w' ⟨rfl,q⟩;have o:=q.symm;subst o;go_wp2;exact⟨⟨k+1,z*16+(A-87),a*16+((A:Int)-97+10),rfl,(by first|rfl|(congr 1;omega)),(by first|rfl|(congr 1;omega)),fM,HN⟩,by simp[intOf];omega⟩
    ·have O:Ck F=none:=by rw[Z.out,if_neg J,if_neg Μ]
     have D:=Gu.out;rw[O] at D;have R:=ŝ D;have pQ:=(show Hid (¬ (97<=A/\A<=102)) from Μ);clear O D I ha U Z Gu Μ;have W:decide ((48:Int)<=F)=false\/((48:Int)<=(F:Int)/\decide ((F:Int)<=57)=false):=by
      rcases (by omega:F<48\/57<F) with h|h
      ·exact .inl qz
      ·exact .inr ⟨fM,qz⟩
     rcases (by have:=pQ.out;omega:A<97\/122<A\/(103<=A/\A<=122)) with h1|h1|⟨h1,h2⟩
     ·have e1:decide ((97:Int)<=A)=false:=qz;rcases W with Vy|⟨Vy,V⟩<;>cases h95:((F:Int)==95);all_goals ((go_wp2_with fail;refine Calls.mono (K.out _) ?_;rintro e w' ⟨rfl,q⟩;have o:=q.symm;subst o);(go_wp2;go_ret2;exact⟨.inr ⟨.inr R.out,_,2,.inr rfl,rfl⟩,Y.out⟩))
     ·have e1:(97:Int)<=A:=fM;have e2:decide ((A:Int)<=122)=false:=qz;rcases W with Vy|⟨Vy,V⟩<;>cases h95:((F:Int)==95);all_goals ((go_wp2_with fail;refine Calls.mono (K.out _) ?_;rintro e w' ⟨rfl,q⟩;have o:=q.symm;subst o);(go_wp2_with fail;refine Calls.mono (K.out _) ?_;rintro e w' ⟨rfl,q⟩;have o:=q.symm;subst o);(go_wp2;go_ret2;exact⟨.inr ⟨.inr R.out,_,2,.inr rfl,rfl⟩,Y.out⟩))
     ·have e1:(97:Int)<=A:=fM;have e2:(A:Int)<=122:=fM;have e3:(16:Int)<=A-97+10:=fM;rcases W with Vy|⟨Vy,V⟩<;>cases h95:((F:Int)==95);all_goals ((go_wp2_with fail;refine Calls.mono (K.out _) ?_;rintro e w' ⟨rfl,q⟩;have o:=q.symm;subst o);(go_wp2_with fail;refine Calls.mono (K.out _) ?_;rintro e w' ⟨rfl,q⟩;have o:=q.symm;subst o);(go_wp2_with fail;refine Calls.mono (K.out _) ?_;rintro e w' ⟨rfl,q⟩;have o:=q.symm;subst o);(go_wp2;go_ret2;exact⟨.inr ⟨.inr R.out,_,2,.inr rfl,rfl⟩,Y.out⟩))
  ·have ñ:k=t.size:=fM;subst ñ;have O:dP z (H.drop t.size)=some z:=by rw[List.drop_eq_nil_of_le fM];rfl
   rw[O] at D;have R:=ŝ D;subst ha;go_wp2;go_ret2;exact⟨.inl ⟨Vp.out,z,R.out,rfl⟩,Y.out⟩
theorem aom(w:World)(j:Tab w):Calls prog 196 #[.int .u64 16] w λe w'=>e = .returned (.int .i64 4)/\w'=w:=by
 have H:Hid (Calls prog 246 #[.int .u64 16] w λe w'=>e = .returned (.int .i64 4)/\w'=w):=(Any7.bits_TrailingZeros64 Tryz.lays729 16 fM w λ_=>j).mono λe w' h=>⟨h.1.trans (by rfl),h.2⟩
 go_enter func196,ntmps196;go_wp2_with (go_at_call 246;refine Calls.mono H.out ?_;rintro e w' ⟨rfl,rfl⟩);go_ret;exact⟨rfl,rfl⟩
theorem aga(w:World):Calls prog 195 #[.int .i64 16] w λe w'=>e = .returned (.bool true)/\w'=w:=by
 go_enter func195,ntmps195;go_wp2;go_ret;exact⟨rfl,rfl⟩
structure qN(w wr:World)(tl:List UInt8):Prop where
 blk:∃C:Array Value,C.size=65/\wr.heap[w.heap.size]? = some (.cells C 299 (0,0))/\∀m (hm:m<tl.length),C[65-tl.length+m]? = some (.int .u8 (tl[m].toNat:Int))
 aI:Below w.heap.size w wr
theorem qN.cell{w wr:World}{A:List UInt8}(h:qN w wr A)(j:Nat)(z:j<65):∃x,wr.cell? ⟨w.heap.size,j,none⟩=some x:=by
 obtain⟨C,o,q,_⟩:=h.blk;exact⟨C[j]'fM,by simp[World.cell?,q,o,z]⟩
theorem qN.byte{w wr:World}{o:List UInt8}(h:qN w wr o)(j:Nat)(D:j<o.length):wr.cell? ⟨w.heap.size,65-o.length+j,none⟩=some (.int .u8 (o[j].toNat:Int)):=by
 obtain⟨C,F,z,A⟩:=h.blk;have q:wr.cell? ⟨w.heap.size,65-o.length+j,none⟩=C[65-o.length+j]?:=by simp[World.cell?,z]
 rw[q,A j D]
theorem qN.free{w wr:World}{q:List UInt8}(h:qN w wr q)(j:Nat):wr.frozen? ⟨w.heap.size,j,none⟩=false:=by
 obtain⟨C,z,o,_⟩:=h.blk;simp[World.frozen?,o]
theorem qN.put{w wr:World}{o:List UInt8}(h:qN w wr o)(I:o.length<65)(j:Nat)(H:j+1+o.length=65)(c:UInt8):qN w (wr.setCell ⟨w.heap.size,j,none⟩ (.int .u8 (c.toNat:Int))) (c::o):=by
 obtain⟨C,A,D,F⟩:=h.blk;refine⟨⟨C.setIfInBounds j (.int .u8 (c.toNat:Int)),by simp[A],heap_set D j _,λm G=>?_⟩,h.aI.setCell (Nat.le_refl _) _⟩;have z:(c::o).length=o.length+1:=rfl;cases m with
 | zero=>
  have e:65-(c::o).length+0=j:=by rw[z];omega
  rw[e,Array.getElem?_setIfInBounds_self_of_lt fM];rfl
 | succ m=>
  have q:m<o.length:=by rw[z] at G;omega
  have e:65-(c::o).length+(m+1)=65-o.length+m:=by rw[z];omega
  rw[e,Array.getElem?_setIfInBounds_ne fM,F m q];rfl
theorem aap(d:Nat)(h:d<16)(j:d<(ByteArray.mk #[48,49,50,51,52,53,54,55,56,57,97,98,99,100,101,102,103,104,105,106,107,108,109,110,111,112,113,114,115,116,117,118,119,120,121,122]).size):(ByteArray.mk #[48,49,50,51,52,53,54,55,56,57,97,98,99,100,101,102,103,104,105,106,107,108,109,110,111,112,113,114,115,116,117,118,119,120,121,122])[d]=qJ d:=by
 rcases (by omega:d=0\/d=1\/d=2\/d=3\/d=4\/d=5\/d=6\/d=7\/d=8\/d=9\/d=10\/d=11\/d=12\/d=13\/d=14\/d=15) with rfl|rfl|rfl|rfl|rfl|rfl|rfl|rfl|rfl|rfl|rfl|rfl|rfl|rfl|rfl|rfl;all_goals rfl
theorem qN.text{w wr:World}{o:List UInt8}(h:qN w wr o)(j:Nat)(A:j+o.length=65)(q:Nat):(convert 82 9 (.slice (some ⟨w.heap.size,j,none⟩) o.length q)).run prog wr = .ok (.string ⟨o.toArray⟩) wr:=by
 refine run_convert_bytes_back (P:=prog) wr 82 9 5 ⟨w.heap.size,j,none⟩ q o underlying82 underlying5 underlying9 (λm z=>?_);have:=h.byte m z;rw[show 65-o.length+m=j+m by omega] at this;have ea:(⟨w.heap.size,j,none⟩:Addr).add m=⟨w.heap.size,j+m,none⟩:=by
  unfold Addr.add;split
  ·simp_all
  ·rfl
 rw[ea];exact this
theorem Pp(u:Nat)(hu:u<18446744073709551616)(w:World)(U:Tab w):
  Calls prog 152 #[.slice none 0 0,.int .u64 (u:Int),.int .i64 16,.bool false,.bool false] w λe w'=>e = .returned (.tuple #[.slice none 0 0,.string ⟨(hexDigits u).toArray⟩])/\Below w.heap.size w w':=by
 have Q:Hid (∀C,Tab (w.alloc C)):=λC=>U.below ((Below.refl _ _).alloc (Nat.le_refl _) _) U.lt
 go_enter func152,ntmps152;go_upto_region 8 with (go_at_call 195;refine Calls.mono (aga _) ?_;rintro e w' ⟨rfl,rfl⟩);obtain⟨W,A⟩:=bF (w.alloc (.cells Tryz.zeroCells299 299));have HA:Hid (qN w W []):=⟨⟨Tryz.zeroCells299,by rfl,by rw[A];exact heap_alloc_new _ _,λm hm=>absurd hm rQ⟩,by rw[A];exact (Below.refl _ _).alloc (Nat.le_refl _) _⟩;have F:Hid (Tab W):=by rw[A];exact Q.out _
 rw[<-A];clear A Q;go_wp2_with (go_at_call 196;refine Calls.mono (aom _ F.out) ?_;rintro e w' ⟨rfl,rfl⟩);go_loopw [1,13] (λv i wr=>∃(j p:Nat) (o:List UInt8),v = .int .u64 (j:Int)/\i = .int .i64 ((p:Int)+1)/\Hid (p+1+o.length=65/\hexDigits j++o=hexDigits u/\j<18446744073709551616)/\qN w wr o) (λv _ _=>(intOf v).toNat);case atStart=>exact⟨u,64,[],rfl,rfl,⟨rfl,rQ,hu⟩,HA.out⟩
 case round=>
  obtain⟨j,p,o,rfl,rfl,Z,J⟩:=hrel;obtain⟨hp,hd,I⟩:=Z.out;have q:=Z;have ē:=(uF 15 u fM).2.1;have hpl':=(uF 15 j fM).1;have ϐ:=congrArg List.length hd;rw[List.length_append] at ϐ;have ip0:(0:Int)<=p:=fM;have ip1:(p:Int)<65:=fM;obtain⟨x,Ϧ⟩:=J.cell p fM;have H:=J.free p;have R:=ŝ J;have D:Hid (o.length<=15):=by show _<=_;omega
  by_cases θ:16<=j
  ·have Y:(16:Int)<=j:=fM;have V:bits .and .u64 (j:Int) 15=((j % 16:Nat):Int):=by
    rw[show (15:Int)=((15:Nat):Int) from rfl,bits_and_u64_nat j 15 I fM,Nat.and_two_pow_sub_one_eq_mod j 4]
   have O:Hid (hexDigits j=hexDigits (j / 16) ++ [qJ (j % 16)]/\j / 16<18446744073709551616):=⟨by rw[hexDigits,dif_neg fM],fM⟩;go_wp2_with fail;have į:1<=p:=by have:=q.out.1;have:=D.out;omega
   refine⟨⟨j / 16,p-1,qJ (j % 16)::o,by rw[Int.natCast_ediv];rfl,by congr 1;omega,⟨?_,?_,O.out.2⟩,?_⟩,?_⟩
   ·have:=q.out.1;simp
    omega
   ·rw[<-q.out.2.1,O.out.1];simp
   ·rw[aap _ (Nat.mod_lt _ lJ)];exact R.out.put (by have:=D.out;omega) p q.out.1 _
   ·simp[intOf];omega
  ·have hlt':(j:Int)<16:=fM;have Ĭ:(prog).arrayLen 299=65:=by simp[Program.arrayLen,underlying299]
   have ę:∀W,(Instr.sliceAt 299 (.pointer (some ⟨w.heap.size,0,none⟩)) (some (.int .i64 (p:Int))) none none).run prog W = .ok (.slice (some ⟨w.heap.size,p,none⟩) (65-p) (65-p)) W:=λW=>by
    rw[run_sliceAt_array_l W 299 ⟨w.heap.size,0,none⟩ (by simp[Program.arrayLen,Program.elem,underlying299]) .i64 (p:Int) fM (by rw[Ĭ];omega)];go_simp
    omega
   obtain⟨G,z⟩:=bF (wr.setCell ⟨w.heap.size,p,none⟩ (.int .u8 ((qJ j).toNat:Int)));have K:Hid (qN w G (qJ j::o)):=by rw[z];exact R.out.put (by have:=D.out;omega) p q.out.1 _
   have š:(convert 82 9 (.slice (some ⟨w.heap.size,p,none⟩) (65-p) (65-p))).run prog G = .ok (.string ⟨(qJ j::o).toArray⟩) G:=by
    have:=K.out.text p (by have:=q.out.1;simp;omega) (65-p);rw[show (qJ j::o).length=65-p by have:=q.out.1;simp;omega] at this;exact this
   go_upto_region 30 with fail;rw[aap _ fM,<-z];clear z;go_wp2;go_ret2;refine⟨?_,K.out.aI⟩;rw[<-q.out.2.1,hexDigits,dif_pos fM];rfl
theorem Pq(u:Nat)(q:u<18446744073709551616)(w:World)(o:Tab w):
  Calls prog 76 #[.int .u64 (u:Int),.int .i64 16] w λe w'=>e = .returned (.string ⟨(hexDigits u).toArray⟩)/\Below w.heap.size w w':=by
 have H:Hid (Calls prog 118 #[.int .u64 (u:Int),.int .i64 16] w λe w'=>e = .returned (.string ⟨(hexDigits u).toArray⟩)/\Below w.heap.size w w'):=by
  have H:=ŝ (Pp u q w o);go_enter func118,ntmps118;go_wp2_with fail;refine Calls.mono H.out ?_;rintro e w' ⟨rfl,j⟩;go_wp2;go_ret;exact⟨rfl,j⟩
 go_enter func76,ntmps76;go_wp2_with fail;refine Calls.mono H.out ?_;rintro e w' ⟨rfl,j⟩;go_wp2;go_ret;exact⟨rfl,j⟩
open aD
theorem XL(s:ByteArray)(w:World):
  Calls prog 220 #[.string s,.string ⟨#[64]⟩] w λe w'=>e = .returned (.int .i64 (Lib.indexByte s.data.toList 64))/\w'=w:=by
 have o:=ŝ (vL s 64 w);cases z:([(64:UInt8)]==s.toList) with
 | true=>
  have j:Hid (Lib.indexByte s.data.toList 64=0):=by
   show _=_;have e : [(64:UInt8)]=s.toList:=by simpa using z
   rw[ByteArray.toList_eq] at e;rw[<-e];rfl
  go_enter func220,ntmps220;go_wp2;go_ret;exact⟨by rw[j.out];rfl,rfl⟩
 | false=>
  go_enter func220,ntmps220;go_wp2_with fail;refine Calls.mono o.out ?_;rintro e w1 ⟨rfl,A⟩;have q:=A.symm;subst q;go_wp2;go_ret;exact⟨rfl,rfl⟩
theorem ac9(s:ByteArray)(w:World)(O:s.size<=1000000):
  Calls prog 180 #[.string s,.string ⟨#[64]⟩] w λe w'=>e = .returned (.tuple #[.string (txt (aJ 64 s.data.toList).1),.string (txt (aJ 64 s.data.toList).2.1),.bool (aJ 64 s.data.toList).2.2])/\∃q,w'=w.drewN q:=by
 have j:=XL s w;rcases zu 64 s.data.toList with⟨h1,h2⟩|⟨i,h1,h2,h3⟩
 ·rw[h1] at j;rw[h2];have o:=ŝ j;go_enter func180,ntmps180;go_wp2_with fail;refine Calls.mono o.out ?_;rintro e w1 ⟨rfl,A⟩;have z:=A.symm;subst z;go_wp2;go_ret3;exact⟨rfl,0,rfl⟩
 ·rw[h1] at j;rw[h3];have K:s.data.toList.length=s.size:=Array.length_toList;have o:=ŝ j;have G:(0:Int)<=i:=fM
  have H:(i:Int)<=s.size:=fM;have I:(0:Int)<=i+1:=fM;have J:(i:Int)+1<=(s.size:Int):=fM;have D:=ŝ (DU s i);have F:=ŝ (DV s (i+1));go_enter func180,ntmps180;go_wp2_with fail;refine Calls.mono o.out ?_;rintro e w1 ⟨rfl,A⟩;have z:=A.symm;subst z;go_wp2_with fail;go_quiet (fail);go_wp2;go_ret3;refine⟨?_,_,rfl⟩;rw[<-D.out,<-F.out];rfl
theorem agd(s:ByteArray)(w:World)(z:s.size<=1000000):
  Calls prog 129 #[.string s,.string ⟨#[64]⟩] w λe w'=>e = .returned (.tuple #[.string (txt (aJ 64 s.data.toList).1),.string (txt (aJ 64 s.data.toList).2.1),.bool (aJ 64 s.data.toList).2.2])/\∃q,w'=w.drewN q:=by
 have j:Hid _:=ac9 s w z;go_enter func129,ntmps129;go_wp2_with fail;refine Calls.mono j.out ?_;rintro e w1 ⟨rfl,q,A⟩;have o:=A;subst o;go_wp2;go_ret3;exact⟨rfl,q,rfl⟩
theorem Uv(v y:ByteArray)(w:World):
  Calls prog 225 #[.string v,.string y] w λe w'=>e = .returned (.bool (decide (y.size<=v.size)&&((v.extract 0 y.size).toList==y.toList)))/\w'=w:=by
 have o:Hid (Calls prog 268 #[.string v,.string y] w λe w'=>e = .returned (.bool (decide (y.size<=v.size)&&((v.extract 0 y.size).toList==y.toList)))/\w'=w):=by
  show Calls _ _ _ _ _;by_cases h:y.size<=v.size
  ·have d:decide ((y.size:Int)<=v.size)=true:=qz;have D:(y.size:Int)<=v.size:=fM;have A:(0:Int)<=y.size:=fM;have j:=ŝ (decide_eq_true h);go_enter func268,ntmps268;go_wp2;go_ret;exact⟨by rw[j.out];rfl,rfl⟩
  ·have d:decide ((y.size:Int)<=v.size)=false:=qz;have j:=ŝ (decide_eq_false h);go_enter func268,ntmps268;go_wp2;go_ret;exact⟨by rw[j.out];rfl,rfl⟩
 go_enter func225,ntmps225;go_wp2_with fail;refine Calls.mono o.out ?_;rintro e w1 ⟨rfl,z⟩;have q:=z.symm;subst q;go_wp2;go_ret;exact⟨rfl,rfl⟩
theorem XM(n:Nat)(o:n<=1000)(w:World):
  Calls prog 226 #[.string ⟨#[48]⟩,.int .i64 (n:Int)] w λe w'=>e = .returned (.string (txt (List.replicate n 48)))/\Below w.heap.size w w':=by
 refine (show Calls prog 226 #[.string ⟨#[48]⟩,.int .i64 (n:Int)] w _ from Any.strings_Repeat agb agc ⟨#[48]⟩ n w fM (by show 1*n<=_;omega)).mono ?_;rintro e w' ⟨rfl,j⟩;refine⟨?_,j⟩;have:∀n,Lib.repeatL (ByteArray.mk #[48]).data.toList n=List.replicate n 48:=λn=>by
  induction n with
  | zero=>rfl
  | succ n ih=>rw[Lib.repeatL,ih];rfl
 rw[this];rfl
theorem RB(s:ByteArray)(O:s.size<=1000000)(w:World)(J:wo w):
  Calls prog 267 #[.string s,.int .i64 16,.int .i64 64] w λe w'=>((s.data.toList ≠ []/\∃v:Nat,dP 0 s.data.toList=some v/\e = .returned (.tuple #[.int .u64 (v:Int),.nilIface]))\/((s.data.toList = []\/dP 0 s.data.toList=none)/\∃x j p,e = .returned (.tuple #[.int .u64 x,.iface j p])))/\Below w.heap.size w w':=by
 have H:=ŝ (aaq s O w);have G:=ŝ J;go_enter func267,ntmps267;go_wp2_with fail;refine Calls.mono H.out ?_;rintro e w1 ⟨K,o⟩;have z:=ŝ o;have I:=ŝ (G.out.below o G.out.lt);rcases K with⟨U,v,Q,rfl⟩|⟨Ø,x,m,hm,rfl⟩
 ·have q:=ŝ (And.intro U Q);go_wp2;go_ret2;exact⟨.inl ⟨q.out.1,v,q.out.2,rfl⟩,z.out⟩
 ·have q:=(show Hid (s.data.toList = []\/dP 0 s.data.toList=none) from Ø);have D:Hid (Calls prog 222 #[.string ⟨#[80,97,114,115,101,85,105,110,116]⟩,.string s,.int .i64 16,.int .i64 64,.iface 352 (.int .i64 m)] w1 λe w'=>(∃j p,e = .returned (.iface j p))/\Below w1.heap.size w1 w'):=by
   rcases hm with rfl|rfl
   ·obtain⟨j,p,F⟩:=I.out.rng;refine (show Calls prog 222 _ w1 _ from Any.strconv_toError_range Vu _ s 16 64 _ w1 fM F (.inr ⟨j,p,rfl⟩)).mono ?_;rintro e w' ⟨N,rfl,_,_,o⟩;exact⟨⟨_,_,rfl⟩,o⟩
   ·obtain⟨j,p,F⟩:=I.out.syn;refine (show Calls prog 222 _ w1 _ from Any.strconv_toError_syntax Vu _ s 16 64 _ w1 fM F (.inr ⟨j,p,rfl⟩)).mono ?_;rintro e w' ⟨N,rfl,_,_,o⟩;exact⟨⟨_,_,rfl⟩,o⟩
  go_wp2_with fail;refine Calls.mono D.out ?_;rintro e V ⟨⟨j,p,rfl⟩,R⟩;have A:=ŝ (z.out.trans (R.mono z.out.size));go_wp2;go_ret2;exact⟨.inr ⟨q.out,_,_,_,rfl⟩,A.out⟩
